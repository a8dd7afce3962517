/-
  The walk of the program's WheelOk.
-/
import Derived.Test.YtkoliacbajpijaaDoorCmpW
import Derived.Test.YtkoliacbajpijaaDoorMapA
import Derived.IntWalk
import Derived.Test.YtkoliacbajpijaaDoorMkA
namespace Go.Proofs.YtkoliacbajpijaaDoor.Whl
open Go.RowKit Go.Maps
set_option linter.unusedVariables false

set_option maxRecDepth 100000 in
set_option maxHeartbeats 1000000 in
theorem wheelOk_loop (w : World) (a : Option Addr) (len cap : Nat) (now : Int) (l : List T) (h : TIs w.heap.size w a len l) (n0 : 0 ≤ now) (n1 : now ≤ 1000000000) (hl60 : len ≤ 60) :
    Calls Tryd.prog 16 #[.agg #[.int .i64 now, .slice a len cap]] w fun e w' => e = .returned (.bool (wokB now l)) ∧ Below w.heap.size w w' := by
  have hmm := @run_makeMap Tryd.prog
  have HBX := Lib.hid (bOne w (.cells #[.int .i64 now, .slice a len cap] 26))
  have HT := Lib.hid h
  have HL := Lib.hid h.hlen
  have HA := Lib.hid (Bx.new w (.int .i64 now) (.slice a len cap) 26)
  have HN := Lib.hid (And.intro n0 n1)
  have HW := Lib.hid (wok_iff now l)
  clear h
  go_enter Tryd.func16, Tryd.ntmps16
  go_wp2_with fail
  go_loopw [24] (fun i wr => ∃ (k : Nat) (D : DataW Unit), k ≤ len ∧ i = .int .i64 k ∧ Hid (∀ j, j < k → stepOk now l j) ∧ Hid (wr.ownsMap Tryd.prog 3 (plainElem Tryd.prog 4) (w.heap.size + 1) k D) ∧ Hid (SeenIs D ((l.take k).map Prod.snd)) ∧ Hid (Below w.heap.size w wr) ∧ Hid (Bx wr w.heap.size (.int .i64 now) (.slice a len cap))) (fun i _ => len - (intOf i).toNat)
  case atStart =>
    refine ⟨0, .map [], by omega, rfl, Lib.hid (by omega), Lib.hid ?_, Lib.hid SeenIs.start, Lib.hid (bAfter HBX.out (bOne _ _) (by simp)), Lib.hid (HA.out.below (bOne _ _))⟩
    have := World.ownsMap_made (H := Unit) (w.alloc (.cells #[.int .i64 now, .slice a len cap] 26)) Tryd.prog 3 (plainElem Tryd.prog 4)
    simpa using this
  case round =>
    obtain ⟨k, D, hk, rfl, HS, HM, HSN, HB, HBx⟩ := hrel
    by_cases hlt : (k : Int) < (len : Int)
    · have hkl : k < l.length := by have := HL.out; omega
      obtain ⟨b, off, rfl, hbw, cx, cy⟩ := (HT.out.below HB.out).cell k hkl
      obtain ⟨x, hx⟩ : ∃ x, x = l[k].1 := ⟨_, rfl⟩
      obtain ⟨y, hy⟩ : ∃ y, y = l[k].2 := ⟨_, rfl⟩
      have hxy : l.getD k (0, 0) = (x, y) := by rw [hx, hy, List.getD_eq_getElem?_getD, List.getElem?_eq_getElem hkl]; rfl
      rw [← hx] at cx
      rw [← hy] at cy
      have HXY := Lib.hid hxy
      clear hx hy hxy
      obtain ⟨c0, c1, hltw⟩ := HBx.out
      have HB1 := Lib.hid (bOne wr (.cells #[.int .i64 x, .int .i64 y] 28))
      have HX1 := Lib.hid (Bx.new wr (.int .i64 x) (.int .i64 y) 28)
      have HBx1 := Lib.hid (HBx.out.below HB1.out)
      by_cases hok : tOk now (x, y)
      · have HOK := Lib.hid hok
        clear hok
        go_wp2_with fail
        refine (timerOk_yes x y now _ HOK.out).mono ?_
        rintro e w2 ⟨rfl, hb2⟩
        have hB2 := bAfter HB.out (bAfter HB1.out hb2 (by simp)) HB.out.size
        have HB2 := Lib.hid hB2
        have HX2 := Lib.hid (HX1.out.below hb2)
        have HBx2 := Lib.hid (HBx1.out.below hb2)
        have HM2 := Lib.hid ((HM.out.kept (grown_of_below HB1.out none) (by simp)).kept (grown_of_below hb2 none) (by simp))
        have HLK := seen_look HM2.out HSN.out (y := y) HOK.out.2.2.1 HOK.out.2.2.2
        clear hb2 hB2 cx cy c0 c1 hltw
        obtain ⟨c0, c1, hltw⟩ := HBx2.out
        obtain ⟨d0, d1, hltx⟩ := HX2.out
        by_cases hmem : y ∈ (l.take k).map Prod.snd
        · have HME := Lib.hid hmem
          rw [decide_eq_true hmem] at HLK
          clear hmem
          go_wp2_with fail
          go_ret
          exact ⟨by rw [wok_not hkl (fun hs => step_new hkl HXY.out hs HME.out)]; rfl, HB2.out⟩
        · have HME := Lib.hid hmem
          rw [decide_eq_false hmem] at HLK
          clear hmem
          by_cases hk0 : k = 0
          · have HSTEP := Lib.hid (step_of hkl HXY.out HOK.out (fun h0 => by omega) HME.out)
            subst hk0
            go_wp2_with fail
            go_quiet (fail)
            have HB3 := Lib.hid (below_grow w2 nq #[])
            rw [Sort.grow_empty] at HB3
            obtain ⟨w3, hw3⟩ : ∃ w3, w3 = w2.drewN nq := ⟨_, rfl⟩
            rw [← hw3] at HB3 ⊢
            clear hw3
            have HM3 := Lib.hid (HM2.out.kept (grown_of_below HB3.out none) (by simp))
            have HX3 := Lib.hid (HX2.out.below HB3.out)
            have HBx3 := Lib.hid (HBx2.out.below HB3.out)
            have HBB3 := Lib.hid (bAfter HB2.out HB3.out HB2.out.size)
            have HKEY := Lib.hid (keyOf_id HOK.out.2.2.1 HOK.out.2.2.2)
            clear c0 c1 hltw d0 d1 hltx HLK
            obtain ⟨d0, d1, hltx⟩ := HX3.out
            go_wp2_with (first | (at_mapUpdate; refine wpList_mapUpdate_own _ rfl _ _ _ 75 rfl 3 4 keyInt Tryd.underlying75 _ (w.heap.size + 1) 0 D rfl HM3.out (by unfold maxLen; omega) _ _ _ rfl rfl HKEY.out _ [] (plainElem_bool Tryd.underlying4 true) ?_) | fail)
            intro w4 hown4 hgrow4
            have HM4 := Lib.hid hown4
            have HG4 := Lib.hid hgrow4
            clear hown4 hgrow4 d0 d1 hltx
            go_wp2_with fail
            go_roundw
            case rel =>
              have hsz := HBB3.out.size
              have hM1 := HM3.out.lt
              refine ⟨0 + 1, _, by omega, by go_num, Lib.hid (fun j hj => ?_), HM4, Lib.hid (take_ids hkl HXY.out ▸ HSN.out.put y), Lib.hid (HBB3.out.grown HG4.out hsz (fun j e => by cases e; omega)), Lib.hid ?_⟩
              · by_cases hjk : j = 0
                · subst hjk
                  exact HSTEP.out
                · exact HS.out j (by omega)
              · exact ⟨(HG4.out.cell HBx3.out.c0 (by simp)), (HG4.out.cell HBx3.out.c1 (by simp)), Nat.lt_of_lt_of_le HBx3.out.lt HG4.out.size⟩
            case measure => simp [intOf]; omega
          · obtain ⟨m, rfl⟩ : ∃ m, k = m + 1 := ⟨k - 1, by omega⟩
            obtain ⟨b', off', e', hbw', px, py⟩ := (HT.out.below HB2.out).cell m (by omega)
            obtain ⟨rfl, rfl⟩ : b = b' ∧ off = off' := by simpa using e'
            obtain ⟨x', hx'⟩ : ∃ x, x = l[m].1 := ⟨_, rfl⟩
            obtain ⟨y', hy'⟩ : ∃ y, y = l[m].2 := ⟨_, rfl⟩
            rw [← hx'] at px
            rw [← hy'] at py
            have hprev : l.getD (m + 1 - 1) (0, 0) = (x', y') := by rw [hx', hy', Nat.add_sub_cancel, getD_at (by omega)]
            have HPREV := Lib.hid hprev
            clear hprev hx' hy' e' hk0
            have hlb : b < w2.heap.size := Nat.lt_of_lt_of_le hbw' HB2.out.size
            have hs1 : IntKind.i64.wrap ((m : Int) + 1 - 1) = (m : Int) := by rw [IntWalk.i64_in _ (by omega)]; omega
            have hs1' : IntKind.i64.wrap (m : Int) = (m : Int) := IntWalk.i64_in _ (by omega)
            have hs0 : (0 : Int) ≤ (m : Int) := by omega
            have hs2 : (0 : Int) < (m : Int) + 1 := by omega
            have hs3 : (m : Int) < (len : Int) := by omega
            by_cases hah : ahd (x', y') (x, y)
            · have HAH := Lib.hid hah
              have HSTEP := Lib.hid (step_of hkl HXY.out HOK.out (fun _ => by rw [HPREV.out]; exact HAH.out) HME.out)
              clear hah
              go_wp2_with fail
              go_region_held3 (fun w' => w'.cell? ⟨w.heap.size, 1, none⟩ = some (.slice (some ⟨b, off, none⟩) len cap) ∧ w'.cell? ⟨b, off + m * 2, none⟩ = some (.int .i64 x') ∧ w'.cell? ⟨b, off + m * 2 + 1, none⟩ = some (.int .i64 y') ∧ w'.cell? ⟨wr.heap.size, 0, none⟩ = some (.int .i64 x) ∧ w'.cell? ⟨wr.heap.size, 1, none⟩ = some (.int .i64 y))
                (first
                  | go_keep
                  | (go_split_ands; exact ⟨below_keep hb3 (Nat.le_refl _) hltw ‹_›, below_keep hb3 (Nat.le_refl _) hlb ‹_›, below_keep hb3 (Nat.le_refl _) hlb ‹_›, below_keep hb3 (Nat.le_refl _) hltx ‹_›, below_keep hb3 (Nat.le_refl _) hltx ‹_›⟩))
                (first | (go_at_call 49; refine (compare_lt (x', y') (x, y) _ HAH.out).mono ?_; rintro e w3 ⟨⟨z, hz, rfl⟩, hb3⟩))
              have HB3 := Lib.hid (show Below w2.heap.size w2 w3 from bAfter (below_drew' (Below.refl _ _)) hb3 (Nat.le_refl _))
              clear hb3 px py
              have HM3 := Lib.hid (HM2.out.kept (grown_of_below HB3.out none) (by simp))
              have HX3 := Lib.hid (HX2.out.below HB3.out)
              have HBx3 := Lib.hid (HBx2.out.below HB3.out)
              have HBB3 := Lib.hid (bAfter HB2.out HB3.out HB2.out.size)
              have HKEY := Lib.hid (keyOf_id HOK.out.2.2.1 HOK.out.2.2.2)
              clear c0 c1 hltw d0 d1 hltx HLK
              obtain ⟨d0, d1, hltx⟩ := HX3.out
              go_wp2_with (first | (at_mapUpdate; refine wpList_mapUpdate_own _ rfl _ _ _ 75 rfl 3 4 keyInt Tryd.underlying75 _ (w.heap.size + 1) (m + 1) D rfl HM3.out (by unfold maxLen; omega) _ _ _ rfl rfl HKEY.out _ [] (plainElem_bool Tryd.underlying4 true) ?_) | fail)
              intro w4 hown4 hgrow4
              have HM4 := Lib.hid hown4
              have HG4 := Lib.hid hgrow4
              clear hown4 hgrow4 d0 d1 hltx
              go_wp2_with fail
              go_roundw
              case rel =>
                have hsz := HBB3.out.size
                have hM1 := HM3.out.lt
                refine ⟨m + 1 + 1, _, by omega, by go_num, Lib.hid (fun j hj => ?_), HM4, Lib.hid (take_ids hkl HXY.out ▸ HSN.out.put y), Lib.hid (HBB3.out.grown HG4.out hsz (fun j e => by cases e; omega)), Lib.hid ?_⟩
                · by_cases hjk : j = m + 1
                  · subst hjk
                    exact HSTEP.out
                  · exact HS.out j (by omega)
                · exact ⟨(HG4.out.cell HBx3.out.c0 (by simp)), (HG4.out.cell HBx3.out.c1 (by simp)), Nat.lt_of_lt_of_le HBx3.out.lt HG4.out.size⟩
              case measure => simp [intOf]; omega
            · have HAH := Lib.hid hah
              clear hah
              go_wp2_with fail
              go_region_held3 (fun w' => w'.cell? ⟨w.heap.size, 1, none⟩ = some (.slice (some ⟨b, off, none⟩) len cap) ∧ w'.cell? ⟨b, off + m * 2, none⟩ = some (.int .i64 x') ∧ w'.cell? ⟨b, off + m * 2 + 1, none⟩ = some (.int .i64 y') ∧ w'.cell? ⟨wr.heap.size, 0, none⟩ = some (.int .i64 x) ∧ w'.cell? ⟨wr.heap.size, 1, none⟩ = some (.int .i64 y))
                (first
                  | go_keep
                  | (go_split_ands; exact ⟨below_keep hb3 (Nat.le_refl _) hltw ‹_›, below_keep hb3 (Nat.le_refl _) hlb ‹_›, below_keep hb3 (Nat.le_refl _) hlb ‹_›, below_keep hb3 (Nat.le_refl _) hltx ‹_›, below_keep hb3 (Nat.le_refl _) hltx ‹_›⟩))
                (first | (go_at_call 49; refine (compare_ge (x', y') (x, y) _ HAH.out).mono ?_; rintro e w3 ⟨⟨z, hz, rfl⟩, hb3⟩))
              have HB3 := Lib.hid (show Below w2.heap.size w2 w3 from bAfter (below_drew' (Below.refl _ _)) hb3 (Nat.le_refl _))
              clear hb3 px py
              go_wp2_with fail
              go_ret
              exact ⟨by rw [wok_not hkl (fun hs => HAH.out (HPREV.out ▸ step_ahd HXY.out hs (by omega)))]; rfl, bAfter HB2.out HB3.out HB2.out.size⟩
      · have HOK := Lib.hid hok
        clear hok
        go_wp2_with fail
        refine (timerOk_no x y now _ HOK.out).mono ?_
        rintro e w2 ⟨rfl, hb2⟩
        have HB2 := Lib.hid (bAfter HB.out (bAfter HB1.out hb2 (by simp)) HB.out.size)
        clear hb2 cx cy c0 c1 hltw
        go_wp2_with fail
        go_ret
        exact ⟨by rw [wok_not hkl (fun hs => HOK.out (step_tok HXY.out hs))]; rfl, HB2.out⟩
    · have HALL := Lib.hid (wokB_true (HW.out.2 ⟨HN.out.1, HN.out.2, by have := HL.out; omega, fun j hj => HS.out j (by have := HL.out; omega)⟩))
      go_wp2_with fail
      go_ret
      exact ⟨by rw [HALL.out]; rfl, HB.out⟩

theorem wheelOk_neg (w : World) (a : Option Addr) (len cap : Nat) (now : Int) (h : now < 0) :
    Calls Tryd.prog 16 #[.agg #[.int .i64 now, .slice a len cap]] w fun e w' => e = .returned (.bool false) ∧ Below w.heap.size w w' := by
  go_enter Tryd.func16, Tryd.ntmps16
  go_wp2
  go_ret
  exact ⟨rfl, bOne _ _⟩

theorem wheelOk_late (w : World) (a : Option Addr) (len cap : Nat) (now : Int) (h : 1000000000 < now) :
    Calls Tryd.prog 16 #[.agg #[.int .i64 now, .slice a len cap]] w fun e w' => e = .returned (.bool false) ∧ Below w.heap.size w w' := by
  have h0 : decide (now < 0) = false := by simp; omega
  go_enter Tryd.func16, Tryd.ntmps16
  go_wp2
  go_ret
  exact ⟨rfl, bOne _ _⟩

theorem wheelOk_long (w : World) (a : Option Addr) (len cap : Nat) (now : Int) (h : (60 : Int) < (len : Int)) (h0 : 0 ≤ now) (h1 : now ≤ 1000000000) :
    Calls Tryd.prog 16 #[.agg #[.int .i64 now, .slice a len cap]] w fun e w' => e = .returned (.bool false) ∧ Below w.heap.size w w' := by
  go_enter Tryd.func16, Tryd.ntmps16
  go_wp2
  go_ret
  exact ⟨rfl, bOne _ _⟩

theorem wheelOk_any (w : World) (a : Option Addr) (len cap : Nat) (now : Int) (l : List T) (h : TIs w.heap.size w a len l) :
    Calls Tryd.prog 16 #[.agg #[.int .i64 now, .slice a len cap]] w fun e w' => e = .returned (.bool (wokB now l)) ∧ Below w.heap.size w w' := by
  by_cases h0 : now < 0
  · rw [wokB_false (fun hw => by have := hw.n0; omega)]
    exact wheelOk_neg w a len cap now h0
  by_cases h1 : 1000000000 < now
  · rw [wokB_false (fun hw => by have := hw.n1; omega)]
    exact wheelOk_late w a len cap now h1
  by_cases h2 : (60 : Int) < (len : Int)
  · rw [wokB_false (fun hw => by have := hw.len; have := h.hlen; omega)]
    exact wheelOk_long w a len cap now h2 (by omega) (by omega)
  · exact wheelOk_loop w a len cap now l h (by omega) (by omega) (by omega)
end Go.Proofs.YtkoliacbajpijaaDoor.Whl
