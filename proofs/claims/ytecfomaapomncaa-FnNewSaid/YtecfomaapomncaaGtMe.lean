/-
  What meets a map of places; totals and letters of a right gate: the walks of the program's tests.
-/
import Derived.Test.YtecfomaapomncaaGtF
import Derived.Test.YtecfomaapomncaaGtSh
namespace Go.Proofs.Ytecfomaapomncaa.Gat
open Go.RowKit Go.Maps
open Lnk (bOne bAfter IOwn IIs below_keep below_drew' low_after low_alloc keyInt grown_of_below)
set_option linter.unusedVariables false

theorem iis_map {w w' : World} {a : Option Addr} {n b m : Nat} {D : DataW Unit} {l : List Int} (h : IIs w.heap.size w a n l) (hm : w.ownsMap Try.prog 3 (plainElem (H := Unit) Try.prog 3) b m D) (hg : w.grownBy w' (some b)) : IIs w'.heap.size w' a n l :=
  ⟨h.hlen, fun k hk => by
    obtain ⟨q, off, e, hlt, h0⟩ := h.cell k hk
    have hne : some q ≠ some b := by
      intro e2
      injection e2 with e2
      subst e2
      obtain ⟨es, clock, hb, _⟩ := hm
      simp [World.cell?, hb] at h0
    exact ⟨q, off, e, Nat.lt_of_lt_of_le hlt hg.size, hg.cell (a := ⟨q, off + k, none⟩) h0 hne⟩⟩
/-- a test's answer -/
def BIs (P : Prop) (e : Ending) : Prop := ∃ x : Bool, e = .returned (.bool x) ∧ (x = true ↔ P)
theorem bis_no {P : Prop} (h : ¬ P) : BIs P (.returned (.bool false)) := ⟨false, rfl, by simp [h]⟩
theorem bis_yes {P : Prop} (h : P) : BIs P (.returned (.bool true)) := ⟨true, rfl, by simp [h]⟩
def eraseAll (K ids : List Int) : List Int := ids.foldl List.erase K
/-- the ids are just those keys, each once -/
def MetP (K ids : List Int) : Prop := (∀ j, (h : j < ids.length) → ids[j] ∈ eraseAll K (ids.take j)) ∧ eraseAll K ids = []
theorem eraseAll_snoc (K ids : List Int) (j : Nat) (h : j < ids.length) : eraseAll K (ids.take (j + 1)) = (eraseAll K (ids.take j)).erase ids[j] := by
  unfold eraseAll
  rw [List.take_succ_eq_append_getElem h, List.foldl_append]
  rfl
theorem eraseAll_nodup : ∀ (ids K : List Int), K.Nodup → (eraseAll K ids).Nodup
  | [], K, h => h
  | x :: r, K, h => eraseAll_nodup r (K.erase x) (h.erase x)

set_option maxRecDepth 100000 in
set_option maxHeartbeats 4000000 in
theorem meet_any (w : World) (b n : Nat) (D : DataW Unit) (K : List Int) (a : Option Addr) (len cap : Nat) (ids : List Int) (hM : MapIs w b n D K) (hK : K.Nodup) (hI : IIs w.heap.size w a len ids) (hwf : ∀ x ∈ ids, (Lit.int .i64 x).wf = true) (hlen : len ≤ 2000000) :
    Calls Try.prog 75 #[.map (some b), .slice a len cap] w fun e w' => BIs (MetP K ids) e ∧ w.grownBy w' (some b) ∧ ∃ n' D' K', MapIs w' b n' D' K' := by
  have HN := Lib.hid hI.hlen
  have HW := Lib.hid hwf
  have HK := Lib.hid hK
  have HM := Lib.hid hM
  have HI := Lib.hid hI
  clear hM hI hwf hK
  go_enter Try.func75, Try.ntmps75
  go_wp2_with fail
  go_loopw [11] (fun i wr => ∃ (j : Nat) (D : DataW Unit), j ≤ len ∧ i = .int .i64 j ∧ Hid (∀ k, (h : k < ids.length) → k < j → ids[k] ∈ eraseAll K (ids.take k)) ∧ Hid (MapIs wr b n D (eraseAll K (ids.take j))) ∧ Hid (IIs wr.heap.size wr a len ids) ∧ Hid (w.grownBy wr (some b))) (fun i _ => len - (intOf i).toNat)
  case atStart => exact ⟨0, D, by omega, rfl, Lib.hid (fun k _ hk => by omega), Lib.hid (by simpa [eraseAll] using HM.out), HI, Lib.hid (World.grownBy.refl _ _)⟩
  case round =>
    obtain ⟨j, D, hj, rfl, HQ, HM, HI, HG⟩ := hrel
    by_cases hlt : (j : Int) < (len : Int)
    · have hjl : j < ids.length := by have := HN.out; omega
      obtain ⟨q, off, rfl, hb, x0⟩ := HI.out.cell j hjl
      obtain ⟨x, hx⟩ : ∃ x, x = ids[j] := ⟨_, rfl⟩
      have hwx : (Lit.int .i64 x).wf = true := by rw [hx]; exact HW.out _ (List.getElem_mem _)
      rw [← hx] at x0
      have HX := Lib.hid hx
      have HWX := Lib.hid hwx
      have HH := Lib.hid (HM.out.keys x)
      clear hx hwx hb
      by_cases hin : x ∈ eraseAll K (ids.take j)
      · have HIN := Lib.hid hin
        have hha : Maps.has D (.int .i64 x) = true := by rw [HH.out]; exact decide_eq_true hin
        clear hin
        go_wp2_with (first | (at_lookup; refine wpList_lookup_own_ok_int _ rfl _ _ 74 rfl 3 3 .i64 keyInt Try.underlying74 Try.underlying3 (zeroInt _) b n D rfl HM.out.own _ (.int .i64 x) rfl (keyOf_wf HWX.out) ?_; intro c1 hat hwc; rw [hha]; clear hat hwc) | (at_delete; refine wpList_delete_own _ rfl _ _ 74 3 rfl 3 keyInt Try.underlying74 _ b n D rfl HM.out.own _ _ rfl (keyOf_wf HWX.out) ?_; intro w1 hown1 hturn1; have HO1 := Lib.hid hown1; have HG1 := Lib.hid hturn1.grown; clear hown1 hturn1) | fail)
        go_roundw
        case rel => exact ⟨j + 1, _, by omega, by go_num, Lib.hid (fun k hk hkj => by
            rcases (show k < j ∨ k = j by omega) with h | rfl
            · exact HQ.out k hk h
            · rw [← HX.out]; exact HIN.out), Lib.hid (by rw [eraseAll_snoc K ids j hjl, ← HX.out]; exact HM.out.del HIN.out (eraseAll_nodup _ _ HK.out) HO1.out), Lib.hid (iis_map HI.out HM.out.own HG1.out), Lib.hid (HG.out.trans HG1.out)⟩
        case measure => simp [intOf]; omega
      · have hha : Maps.has D (.int .i64 x) = false := by rw [HH.out]; exact decide_eq_false hin
        have HNP := Lib.hid (show ¬ MetP K ids from fun h => hin (by rw [HX.out]; exact h.1 j hjl))
        clear hin
        go_wp2_with (first | (at_lookup; refine wpList_lookup_own_ok_int _ rfl _ _ 74 rfl 3 3 .i64 keyInt Try.underlying74 Try.underlying3 (zeroInt _) b n D rfl HM.out.own _ (.int .i64 x) rfl (keyOf_wf HWX.out) ?_; intro c1 hat hwc; rw [hha]; clear hat hwc) | fail)
        go_ret
        exact ⟨bis_no HNP.out, HG.out, n, D, _, HM.out⟩
    · have hjl : j = ids.length := by have := HN.out; omega
      have hM := HM.out
      rw [hjl, List.take_length] at hM
      have HM' := Lib.hid hM
      have HSZ := Lib.hid hM.size
      have HQ' := Lib.hid (show ∀ k, (h : k < ids.length) → ids[k] ∈ eraseAll K (ids.take k) from fun k hk => HQ.out k hk (by omega))
      obtain ⟨m, hm⟩ : ∃ m, m = Maps.size D := ⟨_, rfl⟩
      have HMM := Lib.hid hm
      clear hM hjl
      by_cases h0 : m = 0
      · have HY := Lib.hid (show MetP K ids from ⟨HQ'.out, List.length_eq_zero_iff.1 (by rw [← HSZ.out, ← hm]; exact h0)⟩)
        have hbb : ((m : Int) == 0) = true := by simp [h0]
        clear hm
        go_wp2_with (first | (at_len; refine wpList_len_own _ rfl _ 74 rfl 3 3 Try.underlying74 _ b n D rfl HM'.out.own ?_; rw [← HMM.out]) | fail)
        go_ret
        exact ⟨bis_yes HY.out, HG.out, n, D, _, HM'.out⟩
      · have HNP := Lib.hid (show ¬ MetP K ids from fun h => h0 (by rw [hm, HSZ.out, h.2]; rfl))
        have hbb : ((m : Int) == 0) = false := by simp; omega
        clear hm
        go_wp2_with (first | (at_len; refine wpList_len_own _ rfl _ 74 rfl 3 3 Try.underlying74 _ b n D rfl HM'.out.own ?_; rw [← HMM.out]) | fail)
        go_ret
        exact ⟨bis_no HNP.out, HG.out, n, D, _, HM'.out⟩

set_option maxRecDepth 100000 in
set_option maxHeartbeats 4000000 in
theorem implTotals_any (w : World) (de qu wi ti qa bu le pb pc pj pt nw la : Int) (ea : Option Addr) (en ec : Nat) (ka : Option Addr) (kn kc : Nat) (tu : Int) (fa : Option Addr) (fn fc : Nat) (ra : Option Addr) (rn rc : Nat) (tk ac dr : Int) (E : List Ev) (K : List Lk) (F R : List Int) (hen : en ≤ 1048576) :
    Calls Try.prog 42 #[.agg #[.int .i64 de, .int .i64 qu, .int .i64 wi, .int .i64 ti, .int .i64 qa, .int .i64 bu, .int .i64 le, .int .i64 pb, .int .i64 pc, .int .i64 pj, .int .i64 pt, .int .i64 nw, .int .i64 la, .slice ea en ec, .slice ka kn kc, .int .i64 tu, .slice fa fn fc, .slice ra rn rc, .int .i64 tk, .int .i64 ac, .int .i64 dr]] w fun e w' => BEnd w w' (toP en tk ac dr) e := by
  obtain ⟨W0, hW0⟩ : ∃ W, W = w.alloc (.cells #[.int .i64 de, .int .i64 qu, .int .i64 wi, .int .i64 ti, .int .i64 qa, .int .i64 bu, .int .i64 le, .int .i64 pb, .int .i64 pc, .int .i64 pj, .int .i64 pt, .int .i64 nw, .int .i64 la, .slice ea en ec, .slice ka kn kc, .int .i64 tu, .slice fa fn fc, .slice ra rn rc, .int .i64 tk, .int .i64 ac, .int .i64 dr] 33) := ⟨_, rfl⟩
  have HA : Hid (Box W0 w.heap.size 33 [.int .i64 de, .int .i64 qu, .int .i64 wi, .int .i64 ti, .int .i64 qa, .int .i64 bu, .int .i64 le, .int .i64 pb, .int .i64 pc, .int .i64 pj, .int .i64 pt, .int .i64 nw, .int .i64 la, .slice ea en ec, .slice ka kn kc, .int .i64 tu, .slice fa fn fc, .slice ra rn rc, .int .i64 tk, .int .i64 ac, .int .i64 dr]) := Lib.hid (by rw [hW0]; exact Box.new w [.int .i64 de, .int .i64 qu, .int .i64 wi, .int .i64 ti, .int .i64 qa, .int .i64 bu, .int .i64 le, .int .i64 pb, .int .i64 pc, .int .i64 pj, .int .i64 pt, .int .i64 nw, .int .i64 la, .slice ea en ec, .slice ka kn kc, .int .i64 tu, .slice fa fn fc, .slice ra rn rc, .int .i64 tk, .int .i64 ac, .int .i64 dr] 33)
  have HL : Hid (Below w.heap.size w W0) := Lib.hid (by rw [hW0]; exact bOne _ _)
  have HWE := Lib.hid hW0
  have c8 := HA.out.cell 18 _ rfl
  have c9 := HA.out.cell 19 _ rfl
  have c10 := HA.out.cell 20 _ rfl
  obtain ⟨W1, hW1⟩ : ∃ W, W = W0.alloc (.cells #[.int .i64 tk, .int .i64 ac, .int .i64 dr] 3) := ⟨_, rfl⟩
  obtain ⟨q, hq⟩ : ∃ q, q = W0.heap.size := ⟨_, rfl⟩
  have HB := Lib.hid (show Box W1 q 3 [.int .i64 tk, .int .i64 ac, .int .i64 dr] by rw [hW1, hq]; exact Box.new W0 [.int .i64 tk, .int .i64 ac, .int .i64 dr] 3)
  have HL1 := Lib.hid (show Below w.heap.size w W1 by rw [hW1]; exact low_alloc HL.out _)
  have HA1 := Lib.hid (HA.out.below (show Below W0.heap.size W0 W1 by rw [hW1]; exact bOne _ _))
  have HWE1 := Lib.hid hW1
  have HQQ := Lib.hid hq
  clear hW0 hW1 hq
  go_enter Try.func42, Try.ntmps42
  go_upto_region 1 with fail
  rw [← HWE.out]
  go_wp2_with fail
  rw [← HWE1.out, ← HQQ.out]
  clear c8 c9 c10
  have b0 := HB.out.cell 0 _ rfl
  have b1 := HB.out.cell 1 _ rfl
  have b2 := HB.out.cell 2 _ rfl
  have c8 := HA1.out.cell 8 _ rfl
  have c13 := HA1.out.cell 13 _ rfl
  have c18 := HA1.out.cell 18 _ rfl
  have c19 := HA1.out.cell 19 _ rfl
  have c20 := HA1.out.cell 20 _ rfl
  go_loopw [13] (fun i wr => ∃ j : Nat, j ≤ 3 ∧ i = .int .i64 j ∧ Hid ((j > 0 → 0 ≤ tk ∧ tk ≤ 9999) ∧ (j > 1 → 0 ≤ ac ∧ ac ≤ 9999) ∧ (j > 2 → 0 ≤ dr ∧ dr ≤ 9999)) ∧ wr = W1) (fun i _ => 3 - (intOf i).toNat)
  case atStart => exact ⟨0, by omega, rfl, Lib.hid (by omega), rfl⟩
  case round =>
    obtain ⟨j, hj, rfl, HQ, rfl⟩ := hrel
    by_cases hlt : j < 3
    · rcases (show j = 0 ∨ j = 1 ∨ j = 2 by omega) with rfl | rfl | rfl
      · by_cases h1 : tk < 0
        · have HNP := Lib.hid (show ¬ toP en tk ac dr from fun h => by have h2 := h.1; have h3 := h.2.1; have h4 := h.2.2.1; omega)
          go_wp2_with fail
          go_ret
          exact bend_no HNP.out HL1.out
        by_cases h2 : 9999 < tk
        · have HNP := Lib.hid (show ¬ toP en tk ac dr from fun h => by have h2 := h.1; have h3 := h.2.1; have h4 := h.2.2.1; omega)
          go_wp2_with fail
          go_ret
          exact bend_no HNP.out HL1.out
        have HQ2 := Lib.hid (show (0 + 1 > 0 → 0 ≤ tk ∧ tk ≤ 9999) ∧ (0 + 1 > 1 → 0 ≤ ac ∧ ac ≤ 9999) ∧ (0 + 1 > 2 → 0 ≤ dr ∧ dr ≤ 9999) from by have := HQ.out; omega)
        go_wp2_with fail
        go_roundw
        case rel => exact ⟨0 + 1, by omega, by go_num, HQ2, by trivial⟩
        case measure => simp [intOf]
      · by_cases h1 : ac < 0
        · have HNP := Lib.hid (show ¬ toP en tk ac dr from fun h => by have h2 := h.1; have h3 := h.2.1; have h4 := h.2.2.1; omega)
          go_wp2_with fail
          go_ret
          exact bend_no HNP.out HL1.out
        by_cases h2 : 9999 < ac
        · have HNP := Lib.hid (show ¬ toP en tk ac dr from fun h => by have h2 := h.1; have h3 := h.2.1; have h4 := h.2.2.1; omega)
          go_wp2_with fail
          go_ret
          exact bend_no HNP.out HL1.out
        have HQ2 := Lib.hid (show (1 + 1 > 0 → 0 ≤ tk ∧ tk ≤ 9999) ∧ (1 + 1 > 1 → 0 ≤ ac ∧ ac ≤ 9999) ∧ (1 + 1 > 2 → 0 ≤ dr ∧ dr ≤ 9999) from by have := HQ.out; omega)
        go_wp2_with fail
        go_roundw
        case rel => exact ⟨1 + 1, by omega, by go_num, HQ2, by trivial⟩
        case measure => simp [intOf]
      · by_cases h1 : dr < 0
        · have HNP := Lib.hid (show ¬ toP en tk ac dr from fun h => by have h2 := h.1; have h3 := h.2.1; have h4 := h.2.2.1; omega)
          go_wp2_with fail
          go_ret
          exact bend_no HNP.out HL1.out
        by_cases h2 : 9999 < dr
        · have HNP := Lib.hid (show ¬ toP en tk ac dr from fun h => by have h2 := h.1; have h3 := h.2.1; have h4 := h.2.2.1; omega)
          go_wp2_with fail
          go_ret
          exact bend_no HNP.out HL1.out
        have HQ2 := Lib.hid (show (2 + 1 > 0 → 0 ≤ tk ∧ tk ≤ 9999) ∧ (2 + 1 > 1 → 0 ≤ ac ∧ ac ≤ 9999) ∧ (2 + 1 > 2 → 0 ≤ dr ∧ dr ≤ 9999) from by have := HQ.out; omega)
        go_wp2_with fail
        go_roundw
        case rel => exact ⟨2 + 1, by omega, by go_num, HQ2, by trivial⟩
        case measure => simp [intOf]
    · have hj3 : j = 3 := by omega
      subst hj3
      have hq := HQ.out
      obtain ⟨q0, q1, q2⟩ := hq
      have r0 := q0 (by omega)
      have r1 := q1 (by omega)
      have r2 := q2 (by omega)
      have hw1 : IntKind.i64.wrap ((en : Int) + ac) = (en : Int) + ac := IntWalk.i64_in _ (by omega)
      have hw2 : IntKind.i64.wrap ((en : Int) + ac + dr) = (en : Int) + ac + dr := IntWalk.i64_in _ (by omega)
      by_cases ht : tk = (en : Int) + ac + dr
      · have HY := Lib.hid (show toP en tk ac dr from ⟨r0, r1, r2, ht⟩)
        have hbb : (tk == (en : Int) + ac + dr) = true := by simp [ht]
        have HR := Lib.hid (And.intro r0 (And.intro r1 r2))
        clear ht q0 q1 q2 r0 r1 r2
        go_wp2_with fail
        go_ret
        exact bend_yes HY.out HL1.out
      · have HNP := Lib.hid (show ¬ toP en tk ac dr from fun h => ht h.2.2.2)
        have hbb : (tk == (en : Int) + ac + dr) = false := by simp [ht]
        have HR := Lib.hid (And.intro r0 (And.intro r1 r2))
        clear ht q0 q1 q2 r0 r1 r2
        go_wp2_with fail
        go_ret
        exact bend_no HNP.out HL1.out

end Go.Proofs.Ytecfomaapomncaa.Gat
