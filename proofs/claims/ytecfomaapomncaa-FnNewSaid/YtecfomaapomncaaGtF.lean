/-
  A map of places filled from a row of messages: the walk.
-/
import Derived.Test.YtecfomaapomncaaGtL
import Derived.Test.YtecfomaapomncaaEvW
import Derived.Deep.DeepCutAuto
namespace Go.Proofs.Ytecfomaapomncaa.Gat
open Go.RowKit Go.Maps
open Lnk (bOne bAfter keyInt grown_of_below)
set_option linter.unusedVariables false

set_option maxRecDepth 100000 in
set_option maxHeartbeats 2000000 in
theorem fill0_any (g : Nat) (pr : Ev → Bool) (w : World) (B b n0 : Nat) (D0 : DataW Unit) (a : Option Addr) (len cap : Nat) (E : List Ev) (hB : B ≤ b) (hBw : B ≤ w.heap.size) (hE : EIs B w a len E) (hwf : ∀ e ∈ E, (Lit.int .i64 e.i).wf = true) (hlen : len ≤ 2000000)
    (hm : w.ownsMap Try.prog 3 (plainElem (H := Unit) Try.prog 3) b n0 D0)
    (heg : ∀ (args : Array Value) (w1 : World), (callFunc g args).run Try.prog w1 = .ok (.enter g args) w1)
    (hcall : ∀ (w1 : World) (i d c : Int) (bd : ByteArray) (at_ t r n s : Int), w.grownBy w1 (some b) → Calls Try.prog g #[.agg #[.int .i64 i, .int .i64 d, .int .i64 c, .string bd, .int .i64 at_, .int .i64 t, .int .i64 r, .int .i64 n, .int .i64 s]] w1 fun e w2 => e = .returned (.bool (pr ⟨i, d, c, bd, at_, t, r, n, s⟩)) ∧ Below w1.heap.size w1 w2) :
    Calls Try.prog 46 #[.map (some b), .slice a len cap, .func (.func g) #[] #[]] w fun e w' => e = .returned (.tuple #[]) ∧ (∃ D, MapIs w' b len D (fillK pr E) ∧ ∀ id ∈ fillK pr E, D.atKey (.int .i64 id) (.lit (.int .i64 0)) = .lit (.int .i64 (firstI pr id E))) ∧ w.grownBy w' (some b) := by
  have HN := Lib.hid hE.row.hlen
  have HT := Lib.hid hE
  have HW := Lib.hid hwf
  have HC := Lib.hid hcall
  have HM := Lib.hid hm
  clear hE hwf hcall hm
  go_enter Try.func46, Try.ntmps46
  go_wp2_with (first | (refine wpList_clear_own rfl _ 74 rfl Try.underlying74 rfl HM.out ?_; intro w1 hown1 hg1) | fail)
  have HM1 := Lib.hid (MapIs.empty hown1)
  have HG1 := Lib.hid hg1
  clear hown1 hg1 HM
  go_loopw [13] (fun i wr => ∃ (j : Nat) (D : DataW Unit), j ≤ len ∧ i = .int .i64 j ∧ Hid (MapIs wr b j D (fillK pr (E.take j))) ∧ Hid (∀ id ∈ fillK pr (E.take j), D.atKey (.int .i64 id) (.lit (.int .i64 0)) = .lit (.int .i64 (firstI pr id (E.take j)))) ∧ Hid (w.grownBy wr (some b))) (fun i _ => len - (intOf i).toNat)
  case atStart => exact ⟨0, .map [], by omega, rfl, Lib.hid (by simpa [fillK] using HM1.out), Lib.hid (by simp [fillK]), HG1⟩
  case round =>
    obtain ⟨j, D, hj, rfl, HM, HV, HG⟩ := hrel
    by_cases hlt : (j : Int) < (len : Int)
    · have hjl : j < E.length := by have := HN.out; omega
      have hbw : Below B w wr := (Below.refl _ _).grown HG.out hBw (fun k e => by cases e; exact hB)
      obtain ⟨b', off, i, d, c, bd, at_, t, r, n, s, rfl, hb', hlj, hbd, x0, x1, x2, x3, x4, x5, x6, x7, x8⟩ := (HT.out.below hbw).at j hjl
      have HJ := Lib.hid hlj
      have hwi := HW.out E[j] (List.getElem_mem _)
      rw [hlj] at hwi
      have HWI := Lib.hid (show (Lit.int .i64 i).wf = true from hwi)
      have HS := Lib.hid (fillK_snoc pr E j hjl)
      clear hlj hbd hb' hbw hwi
      have HB1 := Lib.hid (bOne wr (.cells #[.int .i64 i, .int .i64 d, .int .i64 c, .string bd, .int .i64 at_, .int .i64 t, .int .i64 r, .int .i64 n, .int .i64 s] 65))
      have HE := Lib.hid (Evt.B9.new wr i d c bd at_ t r n s 65)
      have HM1 := Lib.hid (HM.out.below HB1.out)
      have HG1 := Lib.hid (HG.out.trans (grown_of_below HB1.out (some b)))
      have HH := Lib.hid (HM.out.keys i)
      by_cases hin : i ∈ fillK pr (E.take j)
      · have HIN := Lib.hid hin
        have hha : Maps.has D (.int .i64 i) = true := by rw [HH.out]; exact decide_eq_true hin
        clear hin
        go_wp2_with (first | (at_lookup; refine wpList_lookup_own_ok_int _ rfl _ _ 74 rfl 3 3 .i64 keyInt Try.underlying74 Try.underlying3 (zeroInt _) b j D rfl HM1.out.own _ (.int .i64 i) rfl (keyOf_wf HWI.out) ?_; intro c1 hat hwc; rw [hha]; clear hat hwc) | fail)
        go_roundw
        case rel =>
          have hs := HS.out
          rw [stepK, HJ.out, if_pos HIN.out] at hs
          refine ⟨j + 1, D, by omega, by go_num, Lib.hid (by rw [hs]; exact HM1.out.mono (by omega)), Lib.hid (fun id hid => ?_), HG1⟩
          rw [hs] at hid
          rw [firstI_stay pr id E j hjl hid]
          exact HV.out id hid
        case measure => simp [intOf]; omega
      · have HIN := Lib.hid hin
        have hha : Maps.has D (.int .i64 i) = false := by rw [HH.out]; exact decide_eq_false hin
        clear hin
        go_wp2_with (first | (at_lookup; refine wpList_lookup_own_ok_int _ rfl _ _ 74 rfl 3 3 .i64 keyInt Try.underlying74 Try.underlying3 (zeroInt _) b j D rfl HM1.out.own _ (.int .i64 i) rfl (keyOf_wf HWI.out) ?_; intro c1 hat hwc; rw [hha]; clear hat hwc) | fail)
        refine (HC.out _ i d c bd at_ t r n s HG1.out).mono ?_
        rintro e w2 ⟨rfl, hb2⟩
        have HM2 := Lib.hid (HM1.out.below hb2)
        have HG2 := Lib.hid (HG1.out.trans (grown_of_below hb2 (some b)))
        have HE2 := Lib.hid (HE.out.below hb2)
        clear hb2
        obtain ⟨y0, y1, y2, y3, y4, y5, y6, y7, y8, ylt⟩ := HE2.out
        cases hp : pr ⟨i, d, c, bd, at_, t, r, n, s⟩ with
        | false =>
          have HP := Lib.hid hp
          clear hp
          go_wp2_with fail
          go_roundw
          case rel =>
            have hs := HS.out
            rw [stepK, HJ.out, if_neg HIN.out, HP.out] at hs
            simp only [Bool.false_eq_true, if_false] at hs
            refine ⟨j + 1, D, by omega, by go_num, Lib.hid (by rw [hs]; exact HM2.out.mono (by omega)), Lib.hid (fun id hid => ?_), HG2⟩
            rw [hs] at hid
            rw [firstI_stay pr id E j hjl hid]
            exact HV.out id hid
          case measure => simp [intOf]; omega
        | true =>
          have HP := Lib.hid hp
          clear hp
          go_wp2_with (first | (at_mapUpdate; refine wpList_mapUpdate_own _ rfl _ _ _ 74 rfl 3 3 keyInt Try.underlying74 _ b j D rfl HM2.out.own (by unfold maxLen; omega) _ _ _ rfl rfl (keyOf_wf HWI.out) _ [] (plainElem_int Try.underlying3 (WalkArith.wf_i64 (by omega))) ?_; intro w3 hown3 hg3; have HO3 := Lib.hid hown3; have HG3 := Lib.hid hg3; clear hown3 hg3) | fail)
          go_roundw
          case rel =>
            have hs := HS.out
            rw [stepK, HJ.out, if_neg HIN.out, HP.out] at hs
            simp only [if_true] at hs
            have hit := HM2.out.own.tidy keyInt
            refine ⟨j + 1, _, by omega, by go_num, Lib.hid (by rw [hs]; exact HM2.out.put HIN.out HO3.out), Lib.hid (fun id hid => ?_), Lib.hid (HG2.out.trans HG3.out)⟩
            rw [hs] at hid
            by_cases e : id = i
            · subst e
              rw [atKey_put_same hit.isMap (keyLit _), firstI_new pr id E j hjl HIN.out (by rw [HJ.out]; exact HP.out) (by rw [HJ.out])]
            · have hid2 : id ∈ fillK pr (E.take j) := by
                rcases List.mem_append.1 hid with h | h
                · exact h
                · exact absurd (List.mem_singleton.1 h) e
              rw [atKey_put_other (litNe e), firstI_stay pr id E j hjl hid2]
              exact HV.out id hid2
          case measure => simp [intOf]; omega
    · have hjl : j = E.length := by have := HN.out; omega
      have hM := HM.out
      have hV := HV.out
      rw [hjl, List.take_length] at hM hV
      have HM' := Lib.hid (show MapIs wr b len D (fillK pr E) from hM.mono (by have := HN.out; omega))
      have HV' := Lib.hid hV
      clear hM hV hjl HM HV
      go_wp2_with fail
      exact bodyPost_end (v := .tuple #[]) (by simp [results, Try.results46]) rfl ⟨rfl, ⟨D, HM'.out, HV'.out⟩, HG.out⟩

set_option maxRecDepth 100000 in
set_option maxHeartbeats 2000000 in
theorem fill1_any (g : Nat) (P : Addr) (pr : Ev → Bool) (w : World) (B b n0 : Nat) (D0 : DataW Unit) (a : Option Addr) (len cap : Nat) (E : List Ev) (hB : B ≤ b) (hBw : B ≤ w.heap.size) (hE : EIs B w a len E) (hwf : ∀ e ∈ E, (Lit.int .i64 e.i).wf = true) (hlen : len ≤ 2000000)
    (hm : w.ownsMap Try.prog 3 (plainElem (H := Unit) Try.prog 3) b n0 D0)
    (heg : ∀ (args : Array Value) (w1 : World), (callFunc g args).run Try.prog w1 = .ok (.enter g args) w1)
    (hcall : ∀ (w1 : World) (i d c : Int) (bd : ByteArray) (at_ t r n s : Int), w.grownBy w1 (some b) → Calls Try.prog g #[.agg #[.int .i64 i, .int .i64 d, .int .i64 c, .string bd, .int .i64 at_, .int .i64 t, .int .i64 r, .int .i64 n, .int .i64 s], .pointer (some P)] w1 fun e w2 => e = .returned (.bool (pr ⟨i, d, c, bd, at_, t, r, n, s⟩)) ∧ Below w1.heap.size w1 w2) :
    Calls Try.prog 46 #[.map (some b), .slice a len cap, .func (.func g) #[] #[.pointer (some P)]] w fun e w' => e = .returned (.tuple #[]) ∧ (∃ D, MapIs w' b len D (fillK pr E) ∧ ∀ id ∈ fillK pr E, D.atKey (.int .i64 id) (.lit (.int .i64 0)) = .lit (.int .i64 (firstI pr id E))) ∧ w.grownBy w' (some b) := by
  have HN := Lib.hid hE.row.hlen
  have HT := Lib.hid hE
  have HW := Lib.hid hwf
  have HC := Lib.hid hcall
  have HM := Lib.hid hm
  clear hE hwf hcall hm
  go_enter Try.func46, Try.ntmps46
  go_wp2_with (first | (refine wpList_clear_own rfl _ 74 rfl Try.underlying74 rfl HM.out ?_; intro w1 hown1 hg1) | fail)
  have HM1 := Lib.hid (MapIs.empty hown1)
  have HG1 := Lib.hid hg1
  clear hown1 hg1 HM
  go_loopw [13] (fun i wr => ∃ (j : Nat) (D : DataW Unit), j ≤ len ∧ i = .int .i64 j ∧ Hid (MapIs wr b j D (fillK pr (E.take j))) ∧ Hid (∀ id ∈ fillK pr (E.take j), D.atKey (.int .i64 id) (.lit (.int .i64 0)) = .lit (.int .i64 (firstI pr id (E.take j)))) ∧ Hid (w.grownBy wr (some b))) (fun i _ => len - (intOf i).toNat)
  case atStart => exact ⟨0, .map [], by omega, rfl, Lib.hid (by simpa [fillK] using HM1.out), Lib.hid (by simp [fillK]), HG1⟩
  case round =>
    obtain ⟨j, D, hj, rfl, HM, HV, HG⟩ := hrel
    by_cases hlt : (j : Int) < (len : Int)
    · have hjl : j < E.length := by have := HN.out; omega
      have hbw : Below B w wr := (Below.refl _ _).grown HG.out hBw (fun k e => by cases e; exact hB)
      obtain ⟨b', off, i, d, c, bd, at_, t, r, n, s, rfl, hb', hlj, hbd, x0, x1, x2, x3, x4, x5, x6, x7, x8⟩ := (HT.out.below hbw).at j hjl
      have HJ := Lib.hid hlj
      have hwi := HW.out E[j] (List.getElem_mem _)
      rw [hlj] at hwi
      have HWI := Lib.hid (show (Lit.int .i64 i).wf = true from hwi)
      have HS := Lib.hid (fillK_snoc pr E j hjl)
      clear hlj hbd hb' hbw hwi
      have HB1 := Lib.hid (bOne wr (.cells #[.int .i64 i, .int .i64 d, .int .i64 c, .string bd, .int .i64 at_, .int .i64 t, .int .i64 r, .int .i64 n, .int .i64 s] 65))
      have HE := Lib.hid (Evt.B9.new wr i d c bd at_ t r n s 65)
      have HM1 := Lib.hid (HM.out.below HB1.out)
      have HG1 := Lib.hid (HG.out.trans (grown_of_below HB1.out (some b)))
      have HH := Lib.hid (HM.out.keys i)
      by_cases hin : i ∈ fillK pr (E.take j)
      · have HIN := Lib.hid hin
        have hha : Maps.has D (.int .i64 i) = true := by rw [HH.out]; exact decide_eq_true hin
        clear hin
        go_wp2_with (first | (at_lookup; refine wpList_lookup_own_ok_int _ rfl _ _ 74 rfl 3 3 .i64 keyInt Try.underlying74 Try.underlying3 (zeroInt _) b j D rfl HM1.out.own _ (.int .i64 i) rfl (keyOf_wf HWI.out) ?_; intro c1 hat hwc; rw [hha]; clear hat hwc) | fail)
        go_roundw
        case rel =>
          have hs := HS.out
          rw [stepK, HJ.out, if_pos HIN.out] at hs
          refine ⟨j + 1, D, by omega, by go_num, Lib.hid (by rw [hs]; exact HM1.out.mono (by omega)), Lib.hid (fun id hid => ?_), HG1⟩
          rw [hs] at hid
          rw [firstI_stay pr id E j hjl hid]
          exact HV.out id hid
        case measure => simp [intOf]; omega
      · have HIN := Lib.hid hin
        have hha : Maps.has D (.int .i64 i) = false := by rw [HH.out]; exact decide_eq_false hin
        clear hin
        go_wp2_with (first | (at_lookup; refine wpList_lookup_own_ok_int _ rfl _ _ 74 rfl 3 3 .i64 keyInt Try.underlying74 Try.underlying3 (zeroInt _) b j D rfl HM1.out.own _ (.int .i64 i) rfl (keyOf_wf HWI.out) ?_; intro c1 hat hwc; rw [hha]; clear hat hwc) | fail)
        refine (HC.out _ i d c bd at_ t r n s HG1.out).mono ?_
        rintro e w2 ⟨rfl, hb2⟩
        have HM2 := Lib.hid (HM1.out.below hb2)
        have HG2 := Lib.hid (HG1.out.trans (grown_of_below hb2 (some b)))
        have HE2 := Lib.hid (HE.out.below hb2)
        clear hb2
        obtain ⟨y0, y1, y2, y3, y4, y5, y6, y7, y8, ylt⟩ := HE2.out
        cases hp : pr ⟨i, d, c, bd, at_, t, r, n, s⟩ with
        | false =>
          have HP := Lib.hid hp
          clear hp
          go_wp2_with fail
          go_roundw
          case rel =>
            have hs := HS.out
            rw [stepK, HJ.out, if_neg HIN.out, HP.out] at hs
            simp only [Bool.false_eq_true, if_false] at hs
            refine ⟨j + 1, D, by omega, by go_num, Lib.hid (by rw [hs]; exact HM2.out.mono (by omega)), Lib.hid (fun id hid => ?_), HG2⟩
            rw [hs] at hid
            rw [firstI_stay pr id E j hjl hid]
            exact HV.out id hid
          case measure => simp [intOf]; omega
        | true =>
          have HP := Lib.hid hp
          clear hp
          go_wp2_with (first | (at_mapUpdate; refine wpList_mapUpdate_own _ rfl _ _ _ 74 rfl 3 3 keyInt Try.underlying74 _ b j D rfl HM2.out.own (by unfold maxLen; omega) _ _ _ rfl rfl (keyOf_wf HWI.out) _ [] (plainElem_int Try.underlying3 (WalkArith.wf_i64 (by omega))) ?_; intro w3 hown3 hg3; have HO3 := Lib.hid hown3; have HG3 := Lib.hid hg3; clear hown3 hg3) | fail)
          go_roundw
          case rel =>
            have hs := HS.out
            rw [stepK, HJ.out, if_neg HIN.out, HP.out] at hs
            simp only [if_true] at hs
            have hit := HM2.out.own.tidy keyInt
            refine ⟨j + 1, _, by omega, by go_num, Lib.hid (by rw [hs]; exact HM2.out.put HIN.out HO3.out), Lib.hid (fun id hid => ?_), Lib.hid (HG2.out.trans HG3.out)⟩
            rw [hs] at hid
            by_cases e : id = i
            · subst e
              rw [atKey_put_same hit.isMap (keyLit _), firstI_new pr id E j hjl HIN.out (by rw [HJ.out]; exact HP.out) (by rw [HJ.out])]
            · have hid2 : id ∈ fillK pr (E.take j) := by
                rcases List.mem_append.1 hid with h | h
                · exact h
                · exact absurd (List.mem_singleton.1 h) e
              rw [atKey_put_other (litNe e), firstI_stay pr id E j hjl hid2]
              exact HV.out id hid2
          case measure => simp [intOf]; omega
    · have hjl : j = E.length := by have := HN.out; omega
      have hM := HM.out
      have hV := HV.out
      rw [hjl, List.take_length] at hM hV
      have HM' := Lib.hid (show MapIs wr b len D (fillK pr E) from hM.mono (by have := HN.out; omega))
      have HV' := Lib.hid hV
      clear hM hV hjl HM HV
      go_wp2_with fail
      exact bodyPost_end (v := .tuple #[]) (by simp [results, Try.results46]) rfl ⟨rfl, ⟨D, HM'.out, HV'.out⟩, HG.out⟩

end Go.Proofs.Ytecfomaapomncaa.Gat
