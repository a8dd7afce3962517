/-
  The specification's StepDead.
-/
import Derived.Test.YtlcllbdalabciaaGcKm
namespace Go.Proofs.Ytlcllbdalabciaa.Gat
open Go.RowKit
open Lnk (bOne bAfter IOwn IIs YOwn YIs below_keep below_drew' bcell low_after low_alloc grown_of_below)
set_option linter.unusedVariables false
set_option linter.unusedSimpArgs false

theorem ne_ig : (3 : TypeId) ≠ 38 := by decide
/-- the letters behind the first ones -/
def deadR (le : Int) (E : List Ev) (R : List Int) : Nat → List Int
  | 0 => R
  | j + 1 => if (E.getD j ev0).s == 2 && decide (((deadR le E R j).length : Int) < le) then deadR le E R j ++ [(E.getD j ev0).i] else deadR le E R j
def deadEs (le : Int) (E : List Ev) (R : List Int) : Nat → List Ev
  | 0 => E
  | j + 1 => if (E.getD j ev0).s == 2 && decide (((deadR le E R j).length : Int) < le) then (deadEs le E R j).set j (withS (E.getD j ev0) 3) else deadEs le E R j
theorem deadEs_len (le : Int) (E : List Ev) (R : List Int) : ∀ j, (deadEs le E R j).length = E.length
  | 0 => rfl
  | j + 1 => by
    unfold deadEs
    split
    · rw [List.length_set]; exact deadEs_len le E R j
    · exact deadEs_len le E R j
theorem deadR_len (le : Int) (E : List Ev) (R : List Int) : ∀ j, (deadR le E R j).length ≤ max R.length le.toNat
  | 0 => by unfold deadR; omega
  | j + 1 => by
    have h := deadR_len le E R j
    unfold deadR
    split
    · next hc =>
      have hc2 : ((deadR le E R j).length : Int) < le := by simp at hc; exact hc.2
      rw [List.length_append, List.length_singleton]
      omega
    · exact h
section
variable {le : Int} {E : List Ev} {R : List Int} {j : Nat} {e : Ev}
theorem ev_getD (h : j < E.length) (he : E[j] = e) : E.getD j ev0 = e := by rw [List.getD_eq_getElem?_getD, List.getElem?_eq_getElem h, he]; rfl
theorem deadEs_yes (h : j < E.length) (he : E[j] = e) (h2 : (e.s == 2) = true) (h3 : decide (((deadR le E R j).length : Int) < le) = true) : deadEs le E R (j + 1) = (deadEs le E R j).set j (withS e 3) := by
  conv => lhs; unfold deadEs
  rw [ev_getD h he, h2, h3]
  rfl
theorem deadR_yes (h : j < E.length) (he : E[j] = e) (h2 : (e.s == 2) = true) (h3 : decide (((deadR le E R j).length : Int) < le) = true) : deadR le E R (j + 1) = deadR le E R j ++ [e.i] := by
  conv => lhs; unfold deadR
  rw [ev_getD h he, h2, h3]
  rfl
theorem deadEs_no (h : j < E.length) (he : E[j] = e) (h2 : (e.s == 2) = false ∨ decide (((deadR le E R j).length : Int) < le) = false) : deadEs le E R (j + 1) = deadEs le E R j := by
  conv => lhs; unfold deadEs
  rw [ev_getD h he]
  rcases h2 with h2 | h2
  · rw [h2]; rfl
  · rw [h2, Bool.and_false]; rfl
theorem deadR_no (h : j < E.length) (he : E[j] = e) (h2 : (e.s == 2) = false ∨ decide (((deadR le E R j).length : Int) < le) = false) : deadR le E R (j + 1) = deadR le E R j := by
  conv => lhs; unfold deadR
  rw [ev_getD h he]
  rcases h2 with h2 | h2
  · rw [h2]; rfl
  · rw [h2, Bool.and_false]; rfl
theorem deadEs_ge (le : Int) (E : List Ev) (R : List Int) (k : Nat) : ∀ j, j ≤ k → (deadEs le E R j)[k]? = E[k]?
  | 0, _ => rfl
  | j + 1, h => by
    have ih := deadEs_ge le E R k j (by omega)
    unfold deadEs
    split
    · rw [List.getElem?_set_ne (by omega)]; exact ih
    · exact ih
theorem deadEs_atq (le : Int) (E : List Ev) (R : List Int) (j : Nat) (h : j < E.length) : (deadEs le E R j)[j]? = some E[j] := by
  rw [deadEs_ge le E R j j (Nat.le_refl _), List.getElem?_eq_getElem h]
end

set_option maxRecDepth 100000 in
set_option maxHeartbeats 8000000 in
theorem specStepDead_any (w : World) (de qu wi ti qa bu le pb pc pj pt nw la : Int) (ea : Option Addr) (en ec : Nat) (ka : Option Addr) (kn kc : Nat) (tu : Int) (fa : Option Addr) (fn fc : Nat) (ra : Option Addr) (rn rc : Nat) (tk ac dr : Int) (E : List Ev) (K : List Lk) (F R : List Int) (h : GIs w.heap.size w ea en ka kn fa fn ra rn E K F R) (hs : Small en kn fn rn K) :
    Calls Try.prog 27 #[.agg #[.int .i64 de, .int .i64 qu, .int .i64 wi, .int .i64 ti, .int .i64 qa, .int .i64 bu, .int .i64 le, .int .i64 pb, .int .i64 pc, .int .i64 pj, .int .i64 pt, .int .i64 nw, .int .i64 la, .slice ea en ec, .slice ka kn kc, .int .i64 tu, .slice fa fn fc, .slice ra rn rc, .int .i64 tk, .int .i64 ac, .int .i64 dr]] w fun e w' => GEnd w w' de qu wi ti qa bu le pb pc pj pt nw la tu tk ac dr (sel (gokB de qu wi ti qa bu le pb pc pj pt nw la en kn tu fn rn tk ac dr E K F R) (deadEs le E R E.length) E) K F (sel (gokB de qu wi ti qa bu le pb pc pj pt nw la en kn tu fn rn tk ac dr E K F R) (deadR le E R E.length) R) e := by
  obtain ⟨W0, hW0⟩ : ∃ W, W = (w.alloc (.cells #[.int .i64 de, .int .i64 qu, .int .i64 wi, .int .i64 ti, .int .i64 qa, .int .i64 bu, .int .i64 le, .int .i64 pb, .int .i64 pc, .int .i64 pj, .int .i64 pt, .int .i64 nw, .int .i64 la, .slice ea en ec, .slice ka kn kc, .int .i64 tu, .slice fa fn fc, .slice ra rn rc, .int .i64 tk, .int .i64 ac, .int .i64 dr] 38)).alloc (.cells #[.int .i64 0, .int .i64 0, .int .i64 0, .int .i64 0, .int .i64 0, .int .i64 0, .int .i64 0, .int .i64 0, .int .i64 0, .int .i64 0, .int .i64 0, .int .i64 0, .int .i64 0, .slice none 0 0, .slice none 0 0, .int .i64 0, .slice none 0 0, .slice none 0 0, .int .i64 0, .int .i64 0, .int .i64 0] 38) := ⟨_, rfl⟩
  have hb01 := bOne w (.cells #[.int .i64 de, .int .i64 qu, .int .i64 wi, .int .i64 ti, .int .i64 qa, .int .i64 bu, .int .i64 le, .int .i64 pb, .int .i64 pc, .int .i64 pj, .int .i64 pt, .int .i64 nw, .int .i64 la, .slice ea en ec, .slice ka kn kc, .int .i64 tu, .slice fa fn fc, .slice ra rn rc, .int .i64 tk, .int .i64 ac, .int .i64 dr] 38)
  have hb02 := bOne (w.alloc (.cells #[.int .i64 de, .int .i64 qu, .int .i64 wi, .int .i64 ti, .int .i64 qa, .int .i64 bu, .int .i64 le, .int .i64 pb, .int .i64 pc, .int .i64 pj, .int .i64 pt, .int .i64 nw, .int .i64 la, .slice ea en ec, .slice ka kn kc, .int .i64 tu, .slice fa fn fc, .slice ra rn rc, .int .i64 tk, .int .i64 ac, .int .i64 dr] 38)) (.cells #[.int .i64 0, .int .i64 0, .int .i64 0, .int .i64 0, .int .i64 0, .int .i64 0, .int .i64 0, .int .i64 0, .int .i64 0, .int .i64 0, .int .i64 0, .int .i64 0, .int .i64 0, .slice none 0 0, .slice none 0 0, .int .i64 0, .slice none 0 0, .slice none 0 0, .int .i64 0, .int .i64 0, .int .i64 0] 38)
  have HA : Hid (Box W0 w.heap.size 38 [.int .i64 de, .int .i64 qu, .int .i64 wi, .int .i64 ti, .int .i64 qa, .int .i64 bu, .int .i64 le, .int .i64 pb, .int .i64 pc, .int .i64 pj, .int .i64 pt, .int .i64 nw, .int .i64 la, .slice ea en ec, .slice ka kn kc, .int .i64 tu, .slice fa fn fc, .slice ra rn rc, .int .i64 tk, .int .i64 ac, .int .i64 dr]) := Lib.hid (by rw [hW0]; exact (Box.new w [.int .i64 de, .int .i64 qu, .int .i64 wi, .int .i64 ti, .int .i64 qa, .int .i64 bu, .int .i64 le, .int .i64 pb, .int .i64 pc, .int .i64 pj, .int .i64 pt, .int .i64 nw, .int .i64 la, .slice ea en ec, .slice ka kn kc, .int .i64 tu, .slice fa fn fc, .slice ra rn rc, .int .i64 tk, .int .i64 ac, .int .i64 dr] 38).below hb02)
  have HR : Hid (Box W0 (w.heap.size + 1) 38 [.int .i64 0, .int .i64 0, .int .i64 0, .int .i64 0, .int .i64 0, .int .i64 0, .int .i64 0, .int .i64 0, .int .i64 0, .int .i64 0, .int .i64 0, .int .i64 0, .int .i64 0, .slice none 0 0, .slice none 0 0, .int .i64 0, .slice none 0 0, .slice none 0 0, .int .i64 0, .int .i64 0, .int .i64 0]) := Lib.hid (by
    rw [hW0]
    have := Box.new (w.alloc (.cells #[.int .i64 de, .int .i64 qu, .int .i64 wi, .int .i64 ti, .int .i64 qa, .int .i64 bu, .int .i64 le, .int .i64 pb, .int .i64 pc, .int .i64 pj, .int .i64 pt, .int .i64 nw, .int .i64 la, .slice ea en ec, .slice ka kn kc, .int .i64 tu, .slice fa fn fc, .slice ra rn rc, .int .i64 tk, .int .i64 ac, .int .i64 dr] 38)) [.int .i64 0, .int .i64 0, .int .i64 0, .int .i64 0, .int .i64 0, .int .i64 0, .int .i64 0, .int .i64 0, .int .i64 0, .int .i64 0, .int .i64 0, .int .i64 0, .int .i64 0, .slice none 0 0, .slice none 0 0, .int .i64 0, .slice none 0 0, .slice none 0 0, .int .i64 0, .int .i64 0, .int .i64 0] 38
    simpa using this)
  have HL : Hid (Below w.heap.size w W0) := Lib.hid (by rw [hW0]; exact hb01.trans (hb02.mono (by simp)))
  have HS0 := Lib.hid (show W0.heap.size = w.heap.size + 1 + 1 by rw [hW0]; simp)
  have HWE := Lib.hid hW0
  have HG := Lib.hid h
  have HSM := Lib.hid hs
  have HT0 := Lib.hid (show GIs W0.heap.size W0 ea en ka kn fa fn ra rn E K F R from h.here HL.out)
  clear hW0 hb01 hb02 h hs
  go_enter Try.func27, Try.ntmps27
  go_upto_region 1 with fail
  rw [← HWE.out]
  clear HWE
  obtain ⟨B1, hB1⟩ : ∃ B, B = W0.heap.size := ⟨_, rfl⟩
  have HB1 := Lib.hid (show w.heap.size + 1 < B1 by rw [hB1, HS0.out]; omega)
  go_wp2_with (first | (refine wpList_load_box rfl _ 38 rfl rfl HA.out _ Try.underlying38 sizeGate ?_) | fail)
  refine (specGCopy_any _ de qu wi ti qa bu le pb pc pj pt nw la ea en ec ka kn kc tu fa fn fc ra rn rc tk ac dr E K F R HT0.out HSM.out).mono ?_
  rintro e w1 ⟨⟨ea1, ec1, ka1, kc1, fa1, fc1, ra1, rc1, vs, rfl, ho⟩, hb⟩
  rw [← hB1] at ho
  obtain ⟨lE, hlE⟩ : ∃ l, l = E.length := ⟨_, rfl⟩
  obtain ⟨lK, hlK⟩ : ∃ l, l = K.length := ⟨_, rfl⟩
  obtain ⟨lF, hlF⟩ : ∃ l, l = F.length := ⟨_, rfl⟩
  obtain ⟨lR, hlR⟩ : ∃ l, l = R.length := ⟨_, rfl⟩
  rw [← hlE, ← hlK, ← hlF, ← hlR] at ho ⊢
  have HlE := Lib.hid hlE
  have HlK := Lib.hid hlK
  have HlF := Lib.hid hlF
  have HlR := Lib.hid hlR
  have HO := Lib.hid ho
  have HOO := Lib.hid ho
  have HBW := Lib.hid (show B1 ≤ w1.heap.size by rw [hB1]; exact hb.size)
  have HWB := Lib.hid HBW.out
  replace HA := Lib.hid (HA.out.below hb)
  replace HR := Lib.hid (HR.out.below hb)
  replace HL := Lib.hid (low_after HL.out hb)
  clear hb ho hlE hlK hlF hlR hB1 HS0 HT0
  obtain ⟨k3, hk3⟩ : ∃ k, k = w1.heap.size := ⟨_, rfl⟩
  go_upto_region 2 with (first | (refine wpList_store_box rfl _ _ 38 rfl rfl [.int .i64 de, .int .i64 qu, .int .i64 wi, .int .i64 ti, .int .i64 qa, .int .i64 bu, .int .i64 le, .int .i64 pb, .int .i64 pc, .int .i64 pj, .int .i64 pt, .int .i64 nw, .int .i64 la, .slice ea1 lE ec1, .slice ka1 lK kc1, .int .i64 tu, .slice fa1 lF fc1, .slice ra1 lR rc1, .int .i64 tk, .int .i64 ac, .int .i64 dr] rfl (Box.new _ [.int .i64 0, .int .i64 0, .int .i64 0, .int .i64 0, .int .i64 0, .int .i64 0, .int .i64 0, .int .i64 0, .int .i64 0, .int .i64 0, .int .i64 0, .int .i64 0, .int .i64 0, .slice none 0 0, .slice none 0 0, .int .i64 0, .slice none 0 0, .slice none 0 0, .int .i64 0, .int .i64 0, .int .i64 0] 38) sizeGate rfl rfl ?_; intro V0 hXb hgV hlV; have HX := Lib.hid hXb; have HBV := Lib.hid (hlV w1.heap.size w1 (Nat.le_refl _) (bOne w1 _)); clear hXb hgV hlV) | fail)
  simp only [Act.put]
  rw [← hk3] at HX ⊢
  have HK3 := Lib.hid (show B1 ≤ k3 by rw [hk3]; exact HBW.out)
  have HW1S := Lib.hid (HBV.out.size)
  clear hk3
  replace HA := Lib.hid (HA.out.below HBV.out)
  replace HR := Lib.hid (HR.out.below HBV.out)
  replace HL := Lib.hid (low_after HL.out HBV.out)
  replace HO := Lib.hid (HO.out.below HBV.out)
  replace HBW := Lib.hid (Nat.le_trans HBW.out HBV.out.size)
  clear HBV
  have HEL := Lib.hid HG.out.ev.row.hlen
  have HEN := Lib.hid (show en ≤ 1048576 from HSM.out.1)
  go_upto_region 3 with fail
  go_loopw [4] (fun i wr => ∃ (j mR : Nat) (raj : Option Addr) (rcj : Nat), j ≤ en ∧ i = .int .i64 j ∧ Hid (j = 0 ∨ (gokB de qu wi ti qa bu le pb pc pj pt nw la en kn tu fn rn tk ac dr E K F R) = true) ∧ Hid (mR = (deadR le E R j).length) ∧ Hid (Below w.heap.size w wr) ∧ Hid (Box wr w.heap.size 38 [.int .i64 de, .int .i64 qu, .int .i64 wi, .int .i64 ti, .int .i64 qa, .int .i64 bu, .int .i64 le, .int .i64 pb, .int .i64 pc, .int .i64 pj, .int .i64 pt, .int .i64 nw, .int .i64 la, .slice ea en ec, .slice ka kn kc, .int .i64 tu, .slice fa fn fc, .slice ra rn rc, .int .i64 tk, .int .i64 ac, .int .i64 dr]) ∧ Hid (Box wr (w.heap.size + 1) 38 [.int .i64 0, .int .i64 0, .int .i64 0, .int .i64 0, .int .i64 0, .int .i64 0, .int .i64 0, .int .i64 0, .int .i64 0, .int .i64 0, .int .i64 0, .int .i64 0, .int .i64 0, .slice none 0 0, .slice none 0 0, .int .i64 0, .slice none 0 0, .slice none 0 0, .int .i64 0, .int .i64 0, .int .i64 0]) ∧ Hid (Box wr k3 38 [.int .i64 de, .int .i64 qu, .int .i64 wi, .int .i64 ti, .int .i64 qa, .int .i64 bu, .int .i64 le, .int .i64 pb, .int .i64 pc, .int .i64 pj, .int .i64 pt, .int .i64 nw, .int .i64 la, .slice ea1 lE ec1, .slice ka1 lK kc1, .int .i64 tu, .slice fa1 lF fc1, .slice raj mR rcj, .int .i64 tk, .int .i64 ac, .int .i64 dr]) ∧ Hid (GOwn B1 wr (.slice ea1 lE ec1) (.slice ka1 lK kc1) (.slice fa1 lF fc1) (.slice raj mR rcj) vs (deadEs le E R j) K F (deadR le E R j)) ∧ Hid (B1 ≤ wr.heap.size) ∧ Hid (w1.heap.size ≤ wr.heap.size)) (fun i _ => en - (intOf i).toNat)
  case atStart => exact ⟨0, lR, ra1, rc1, by omega, rfl, Lib.hid (.inl rfl), HlR, HL, HA, HR, HX, HO, HBW, HW1S⟩
  case round =>
    obtain ⟨j, mR, raj, rcj, hj, rfl, HJ0, HMR, HL, HA, HR, HX, HO, HBW, HW1S⟩ := hrel
    have c13 := HA.out.cell 13 _ rfl
    have hkm := HEN.out
    obtain ⟨EJ, hEJ⟩ : ∃ X, X = deadEs le E R j := ⟨_, rfl⟩
    obtain ⟨RJ, hRJ⟩ : ∃ X, X = deadR le E R j := ⟨_, rfl⟩
    rw [← hEJ, ← hRJ] at HO
    rw [← hRJ] at HMR
    have HEJ := Lib.hid hEJ
    have HRJ := Lib.hid hRJ
    clear hEJ hRJ
    by_cases hlt : (j : Int) < (en : Int)
    · have hjl : j < E.length := by have := HEL.out; omega
      go_wp2_with (first | (refine wpList_loadg_box (by rfl) _ 38 rfl rfl HA.out _ Try.underlying38 sizeGate ?_) | fail)
      refine (specGateOk_any _ de qu wi ti qa bu le pb pc pj pt nw la ea en ec ka kn kc tu fa fn fc ra rn rc tk ac dr E K F R (HG.out.here HL.out)).mono ?_
      rintro e w2 ⟨⟨x, rfl, hx⟩, hb⟩
      have HGB := Lib.hid (gokB_of hx)
      have HXP := Lib.hid hx
      replace HA := Lib.hid (HA.out.below hb)
      replace HR := Lib.hid (HR.out.below hb)
      replace HX := Lib.hid (HX.out.below hb)
      replace HO := Lib.hid (HO.out.below hb)
      replace HL := Lib.hid (low_after HL.out hb)
      replace HBW := Lib.hid (Nat.le_trans HBW.out hb.size)
      replace HW1S := Lib.hid (Nat.le_trans HW1S.out hb.size)
      clear hb hx c13
      cases x with
      | false =>
        obtain rfl : j = 0 := by rcases HJ0.out with h | h; exact h; rw [HGB.out] at h; cases h
        have HM0 := Lib.hid (show R.length = mR by rw [HMR.out, HRJ.out]; rfl)
        go_wp2_with (first | (refine wpList_load_box rfl _ 38 rfl rfl HX.out _ Try.underlying38 sizeGate ?_) | (refine wpList_store_box rfl _ _ 38 rfl rfl [.int .i64 de, .int .i64 qu, .int .i64 wi, .int .i64 ti, .int .i64 qa, .int .i64 bu, .int .i64 le, .int .i64 pb, .int .i64 pc, .int .i64 pj, .int .i64 pt, .int .i64 nw, .int .i64 la, .slice ea1 lE ec1, .slice ka1 lK kc1, .int .i64 tu, .slice fa1 lF fc1, .slice raj mR rcj, .int .i64 tk, .int .i64 ac, .int .i64 dr] rfl HR.out sizeGate rfl rfl ?_; intro V hXb hgV hlV) | fail)
        rw [HGB.out, sel_no, sel_no]
        exact bodyPost_ret (v := .agg #[.int .i64 de, .int .i64 qu, .int .i64 wi, .int .i64 ti, .int .i64 qa, .int .i64 bu, .int .i64 le, .int .i64 pb, .int .i64 pc, .int .i64 pj, .int .i64 pt, .int .i64 nw, .int .i64 la, .slice ea1 lE ec1, .slice ka1 lK kc1, .int .i64 tu, .slice fa1 lF fc1, .slice raj mR rcj, .int .i64 tk, .int .i64 ac, .int .i64 dr]) (results_box _ Try.results27 rfl hXb _ Try.underlying38 sizeGate) rfl ⟨⟨ea1, ec1, ka1, kc1, fa1, fc1, raj, rcj, vs, by rw [← HlE.out, ← HlK.out, ← HlF.out, show R.length = mR from HM0.out], by rw [← HlE.out, ← HlK.out, ← HlF.out, show R.length = mR from HM0.out]; have h := (HO.out.low hgV (by have := HB1.out; omega)).base (B' := w.heap.size) (by have := HB1.out; omega); rw [HEJ.out, HRJ.out] at h; exact h⟩, hlV w.heap.size w (by omega) HL.out⟩
      | true =>
        have HP := Lib.hid (HXP.out.1 rfl)
        clear HXP
        obtain ⟨b, off, i, d, c, bd, at_, t, r, n, s, rfl, hbl, hlj, hbd, hc9⟩ := (HG.out.ev.below HL.out).at j hjl
        have HLJ := Lib.hid hlj
        have HBDD := Lib.hid hbd
        have HBL := Lib.hid hbl
        have HC9 := Lib.hid hc9
        clear hlj hbd hbl
        have hmr : mR ≤ 1000000 := by
          have h1 := deadR_len le E R j
          rw [← HRJ.out, ← HMR.out] at h1
          have h2 := HSM.out.2.2.2.2
          have h3 := HG.out.lt.hlen
          have h4 : en ≤ 60 := HP.out.2.2.2.2.1.1
          have h5 : (rn : Int) ≤ le := HP.out.2.2.2.2.2.2.1.1
          have h6 := HP.out.1
          unfold CfgOk at h6
          omega
        have c13 := HA.out.cell 13 _ rfl
        have c6 := HA.out.cell 6 _ rfl
        have o17 := HX.out.cell 17 _ rfl
        have c8 := hc9.c8
        clear hc9
        cases h2 : (s == 2) with
        | false =>
          have HE2 := Lib.hid (deadEs_no (le := le) (R := R) hjl HLJ.out (.inl h2))
          have HR2 := Lib.hid (deadR_no (le := le) (R := R) hjl HLJ.out (.inl h2))
          go_wp2_with fail
          go_roundw
          case rel => exact ⟨j + 1, mR, raj, rcj, by omega, by go_num, Lib.hid (.inr HGB.out), Lib.hid (by rw [HR2.out, ← HRJ.out]; exact HMR.out), HL, HA, HR, HX, Lib.hid (by rw [HE2.out, HR2.out, ← HEJ.out, ← HRJ.out]; exact HO.out), HBW, HW1S⟩
          case measure => simp [intOf]; omega
        | true =>
        cases h3 : decide ((mR : Int) < le) with
        | false =>
          have HE2 := Lib.hid (deadEs_no (le := le) (R := R) hjl HLJ.out (.inr (by rw [← HRJ.out, ← HMR.out]; exact h3)))
          have HR2 := Lib.hid (deadR_no (le := le) (R := R) hjl HLJ.out (.inr (by rw [← HRJ.out, ← HMR.out]; exact h3)))
          go_wp2_with fail
          go_roundw
          case rel => exact ⟨j + 1, mR, raj, rcj, by omega, by go_num, Lib.hid (.inr HGB.out), Lib.hid (by rw [HR2.out, ← HRJ.out]; exact HMR.out), HL, HA, HR, HX, Lib.hid (by rw [HE2.out, HR2.out, ← HEJ.out, ← HRJ.out]; exact HO.out), HBW, HW1S⟩
          case measure => simp [intOf]; omega
        | true =>
          have HE2 := Lib.hid (deadEs_yes (le := le) (R := R) hjl HLJ.out h2 (by rw [← HRJ.out, ← HMR.out]; exact h3))
          have HR2 := Lib.hid (deadR_yes (le := le) (R := R) hjl HLJ.out h2 (by rw [← HRJ.out, ← HMR.out]; exact h3))
          have hEJL : EJ.length = E.length := by rw [HEJ.out, deadEs_len]
          obtain ⟨ge, hge⟩ := own_some HOO.out.evO (by omega)
          obtain ⟨rfl, hgew⟩ := hge
          have HGEW := Lib.hid hgew
          have HGEB := Lib.hid (show B1 ≤ ge from (World.ownsRow.lt HOO.out.evO ge rfl).1)
          have hjJ : j < EJ.length := by omega
          have HEA := Lib.hid (show EJ[j] = ⟨i, d, c, bd, at_, t, r, n, s⟩ from (List.getElem?_eq_some_iff.1 (by rw [HEJ.out, deadEs_atq le E R j hjl, HLJ.out])).2)
          have hcx := eown_cellx HO.out.evO j hjJ HEA.out
          have z8 := hcx.c8
          have f8 := HO.out.evO.frozenAt (j * 9 + 8)
          have o13 := HX.out.cell 13 _ rfl
          have hjE : (j : Int) < (lE : Int) := by have := HlE.out; omega
          have HST8 := Lib.hid (eown_statusx HO.out.evO j hjJ HEA.out 3)
          clear hcx hgew hEJL
          go_upto_region 7 with fail
          clear z8 f8 o13 o17 c6 c8 c13
          obtain ⟨w7, hw7⟩ : ∃ V, V = w2.setCell ⟨ge, j * 9 + 8, none⟩ (.int .i64 3) := ⟨_, rfl⟩
          rw [← hw7] at HST8 ⊢
          clear hw7
          have hgx := HST8.out.2
          obtain ⟨E7, hE7⟩ : ∃ X, X = EJ.set j (withS ⟨i, d, c, bd, at_, t, r, n, s⟩ 3) := ⟨_, rfl⟩
          have HE7 := Lib.hid (show deadEs le E R (j + 1) = E7 by rw [HE2.out, hE7, HEJ.out])
          have HO7 := Lib.hid (show GOwn B1 w7 (.slice (some ⟨ge, 0, none⟩) lE ec1) (.slice ka1 lK kc1) (.slice fa1 lF fc1) (.slice raj mR rcj) vs E7 K F RJ from HO.out.setEv hgx (by rw [hE7]; exact HST8.out.1) (.inl rfl) (by
            rw [hE7]
            intro e he
            rcases List.mem_or_eq_of_mem_set he with he | rfl
            · exact HO.out.body e he
            · exact HBDD.out))
          replace HA := Lib.hid (HA.out.grown hgx (by have := HGEB.out; have := HB1.out; simp; omega))
          replace HR := Lib.hid (HR.out.grown hgx (by have := HGEB.out; have := HB1.out; simp; omega))
          replace HX := Lib.hid (HX.out.grown hgx (ne_of_box (evR_at.2 HO.out.evO) HX.out ne_eg rfl))
          replace HL := Lib.hid (HL.out.grown hgx HL.out.size (fun z hz => by cases hz; have := HGEB.out; have := HB1.out; omega))
          replace HBW := Lib.hid (Nat.le_trans HBW.out hgx.size)
          replace HW1S := Lib.hid (Nat.le_trans HW1S.out hgx.size)
          have HI0 := Lib.hid (show w7.cell? ⟨b, off + j * 9, none⟩ = some (.int .i64 i) from hgx.cell (a := ⟨b, off + j * 9, none⟩) HC9.out.c0 (by have := HGEB.out; have := HB1.out; have := HBL.out; simp; omega))
          clear hgx HST8 hE7 HC9
          replace HO := HO7
          clear HO7
          have HQ := Lib.hid (below_drew' (Below.refl w7.heap.size w7))
          replace HA := Lib.hid (HA.out.below HQ.out)
          replace HR := Lib.hid (HR.out.below HQ.out)
          replace HX := Lib.hid (HX.out.below HQ.out)
          replace HO := Lib.hid (HO.out.below HQ.out)
          replace HL := Lib.hid (low_after HL.out HQ.out)
          replace HBW := Lib.hid (Nat.le_trans HBW.out HQ.out.size)
          replace HW1S := Lib.hid (Nat.le_trans HW1S.out HQ.out.size)
          replace HI0 := Lib.hid ((HQ.out.cell (p := ⟨b, off + j * 9, none⟩) (World.block_lt_of_cell? _ _ HI0.out)).trans HI0.out)
          refine wp_region_held_drew (S := fun w' => (w'.cell? ⟨w.heap.size, 13, none⟩ = some (.slice (some ⟨b, off, none⟩) en ec) ∧ w'.cell? ⟨b, off + j * 9, none⟩ = some (.int .i64 i))) (by kernel_rfl) ⟨HA.out.cell 13 _ rfl, HI0.out⟩ (fun hHeld => ?_)
          obtain ⟨wd, hwd⟩ : ∃ x, x = w7.drew := ⟨_, rfl⟩
          rw [← hwd] at HA HR HX HO HL HBW HW1S HI0 hHeld ⊢
          clear HQ hwd
          refine wpAnyH_take (i := 0) (oi := { dst := some _, op := _, type := _, pos := _, after := _, guard := _ }) (v := ?_) rfl (by kernel_rfl) (by kernel_rfl) (by kernel_rfl) (fun _ _ _ h => h) ?_ (by with_reducible assumption) ?_
          rotate_left 1
          focus (refine Or.inl ⟨by rfl, ?_⟩; intro wq hSw; go_simp; try with_reducible rfl)
          try simp only [Act.put, List.setIfInBounds_toArray, List.set_cons_zero, List.set_cons_succ]
          refine wpAnyH_take (i := 2) (oi := { dst := some _, op := _, type := _, pos := _, after := _, guard := _ }) (v := ?_) rfl (by kernel_rfl) (by kernel_rfl) (by kernel_rfl) (fun _ _ _ h => h) ?_ (by with_reducible assumption) ?_
          rotate_left 1
          focus (refine Or.inl ⟨by rfl, ?_⟩; intro wq hSw; go_simp; try with_reducible rfl)
          try simp only [Act.put, List.setIfInBounds_toArray, List.set_cons_zero, List.set_cons_succ]
          refine wpAnyH_take (i := 3) (oi := { dst := some _, op := _, type := _, pos := _, after := _, guard := _ }) (v := ?_) rfl (by kernel_rfl) (by kernel_rfl) (by kernel_rfl) (fun _ _ _ h => h) ?_ (by with_reducible assumption) ?_
          rotate_left 1
          focus (refine Or.inl ⟨by rfl, ?_⟩; intro wq hSw; have q0 := hSw.1; go_simp; try with_reducible rfl)
          try simp only [Act.put, List.setIfInBounds_toArray, List.set_cons_zero, List.set_cons_succ]
          refine wpAnyH_take (i := 4) (oi := { dst := some _, op := _, type := _, pos := _, after := _, guard := _ }) (v := ?_) rfl (by kernel_rfl) (by kernel_rfl) (by kernel_rfl) (fun _ _ _ h => h) ?_ (by with_reducible assumption) ?_
          rotate_left 1
          focus (refine Or.inl ⟨by rfl, ?_⟩; intro wq hSw; go_simp; try with_reducible rfl)
          try simp only [Act.put, List.setIfInBounds_toArray, List.set_cons_zero, List.set_cons_succ]
          refine wpAnyH_take (i := 5) (oi := { dst := some _, op := _, type := _, pos := _, after := _, guard := _ }) (v := ?_) rfl (by kernel_rfl) (by kernel_rfl) (by kernel_rfl) (fun _ _ _ h => h) ?_ (by with_reducible assumption) ?_
          rotate_left 1
          focus (refine Or.inl ⟨by rfl, ?_⟩; intro wq hSw; go_simp; try with_reducible rfl)
          try simp only [Act.put, List.setIfInBounds_toArray, List.set_cons_zero, List.set_cons_succ]
          refine wpAnyH_take (i := 6) (oi := { dst := some _, op := _, type := _, pos := _, after := _, guard := _ }) (v := ?_) rfl (by kernel_rfl) (by kernel_rfl) (by kernel_rfl) (fun _ _ _ h => h) ?_ (by with_reducible assumption) ?_
          rotate_left 1
          focus (refine Or.inl ⟨by rfl, ?_⟩; intro wq hSw; go_simp; try with_reducible rfl)
          try simp only [Act.put, List.setIfInBounds_toArray, List.set_cons_zero, List.set_cons_succ]
          refine wpAnyH_take (i := 7) (oi := { dst := some _, op := _, type := _, pos := _, after := _, guard := _ }) (v := ?_) rfl (by kernel_rfl) (by kernel_rfl) (by kernel_rfl) (fun _ _ _ h => h) ?_ (by with_reducible assumption) ?_
          rotate_left 1
          focus (refine Or.inl ⟨by rfl, ?_⟩; intro wq hSw; have q1 := hSw.2; go_simp; try with_reducible rfl)
          try simp only [Act.put, List.setIfInBounds_toArray, List.set_cons_zero, List.set_cons_succ]
          refine wpAnyH_ready (rs := [1, 8]) (by kernel_rfl) (by simp) ?_
          refine AllReadyH.cons rfl (fun KL hKL => ?_) ?_
          · have o17 := HX.out.cell 17 _ rfl
            go_simp
            refine hKL.out _ _ (⟨HA.out.cell 13 _ rfl, HI0.out⟩) (fun hHeld => ?_)
            clear hKL
            try simp only [Act.put, List.setIfInBounds_toArray, List.set_cons_zero, List.set_cons_succ]
            clear o17
            refine wpAnyH_ready (rs := [8]) (by kernel_rfl) (by simp) ?_
            refine AllReadyH.cons rfl (fun KB hKB => ?_) AllReadyH.nil
            go_simp
            have hb := bOne wd (.cells #[.int .i64 i] 3)
            have HT1 := Lib.hid (ris_int wd 3 i)
            replace HA := Lib.hid (HA.out.below hb)
            replace HR := Lib.hid (HR.out.below hb)
            replace HX := Lib.hid (HX.out.below hb)
            replace HO := Lib.hid (HO.out.below hb)
            replace HL := Lib.hid (low_after HL.out hb)
            replace HBW := Lib.hid (Nat.le_trans HBW.out hb.size)
            replace HW1S := Lib.hid (Nat.le_trans HW1S.out hb.size)
            replace HI0 := Lib.hid ((hb.cell (p := ⟨b, off + j * 9, none⟩) (World.block_lt_of_cell? _ _ HI0.out)).trans HI0.out)
            clear hb hHeld
            refine hKB.out _ _ (⟨HA.out.cell 13 _ rfl, HI0.out⟩) (fun hHeld => ?_)
            clear hKB
            try simp only [Act.put, List.setIfInBounds_toArray, List.set_cons_zero, List.set_cons_succ]
            refine wpAnyH_ready (rs := [9]) (by kernel_rfl) (by simp) ?_
            refine AllReadyH.cons rfl (fun KP hKP => ?_) AllReadyH.nil
            have HAP := Lib.hid (app_row (T := 28) (ty := 28) (cap := 1) (len := 1) inS Try.underlying28 infoInt' inZ (by decide) (by omega) (iown_row.1 HO.out.ltO) HT1.out (flat_in_one _) (by rw [← HMR.out]; omega) HBW.out)
            refine Lnk.step_append_run rfl (.tmp 40) (.tmp 47) _ rfl (.slice raj mR rcj) (.slice (some ⟨wd.heap.size, 0, none⟩) 1 1) (by simp [Act.eval, Act.put]) (by simp [Act.eval, Act.put]) HAP.out ?_
            intro v' v3 happ
            obtain ⟨ra2, rc2, rfl⟩ := ROwn.shapeL happ.1 (mR + 1) (by rw [List.length_append, ← HMR.out]; rfl)
            have hgz := happ.2.1
            have HOn := Lib.hid (HO.out.setLt hgz (iown_row.2 happ.1) happ.2.2)
            have hkb : ∀ z, (Value.slice raj mR rcj).ownBlock = some z → B1 ≤ z := fun z hz => (World.ownsRow.lt HO.out.ltO z hz).1
            have hne : ∀ z, z < B1 → some z ≠ (Value.slice raj mR rcj).ownBlock := fun z hz e => by have := hkb z e.symm; omega
            replace HX := Lib.hid (HX.out.grown hgz (box_ne (inR_at.2 HO.out.ltO) HX.out ne_ig))
            replace HA := Lib.hid (HA.out.grown hgz (hne _ (by have := HB1.out; omega)))
            replace HR := Lib.hid (HR.out.grown hgz (hne _ (by have := HB1.out; omega)))
            replace HI0 := Lib.hid (hgz.cell (a := ⟨b, off + j * 9, none⟩) HI0.out (hne b (by have := HB1.out; have := HBL.out; omega)))
            replace HL := Lib.hid (HL.out.grown hgz HL.out.size (fun z hz => by have := hkb z hz; have := HB1.out; omega))
            replace HBW := Lib.hid (Nat.le_trans HBW.out hgz.size)
            replace HW1S := Lib.hid (Nat.le_trans HW1S.out hgz.size)
            clear happ hgz hkb hne hHeld HT1 HAP HO
            refine hKP.out _ _ (⟨HA.out.cell 13 _ rfl, HI0.out⟩) (fun hHeld => ?_)
            clear hKP
            try simp only [Act.put, List.setIfInBounds_toArray, List.set_cons_zero, List.set_cons_succ]
            refine wpAnyH_take (i := 10) (oi := { dst := some _, op := _, type := _, pos := _, after := _, guard := _ }) (v := ?_) rfl (by kernel_rfl) (by kernel_rfl) (by kernel_rfl) (fun _ _ _ h => h) ?_ (by with_reducible assumption) ?_
            rotate_left 1
            focus (refine Or.inl ⟨by rfl, ?_⟩; intro wq hSw; go_simp; try with_reducible rfl)
            try simp only [Act.put, List.setIfInBounds_toArray, List.set_cons_zero, List.set_cons_succ]
            refine wpAnyH_ready (rs := [11]) (by kernel_rfl) (by simp) ?_
            refine AllReadyH.cons rfl (fun KS hKS => ?_) AllReadyH.nil
            have o17 := HX.out.cell 17 _ rfl
            have g17 := HX.out.frozen 17
            go_simp
            obtain ⟨v4, hV⟩ : ∃ V, V = v3.setCell ⟨k3, 17, none⟩ (.slice ra2 (mR + 1) rc2) := ⟨_, rfl⟩
            rw [← hV]
            have hg : v3.grownBy v4 (some k3) := by rw [hV]; exact store_grown [.slice ra2 (mR + 1) rc2] 17 _
            have HXn := Lib.hid (show Box v4 k3 38 [.int .i64 de, .int .i64 qu, .int .i64 wi, .int .i64 ti, .int .i64 qa, .int .i64 bu, .int .i64 le, .int .i64 pb, .int .i64 pc, .int .i64 pj, .int .i64 pt, .int .i64 nw, .int .i64 la, .slice (some ⟨ge, 0, none⟩) lE ec1, .slice ka1 lK kc1, .int .i64 tu, .slice fa1 lF fc1, .slice ra2 (mR + 1) rc2, .int .i64 tk, .int .i64 ac, .int .i64 dr] by rw [hV]; exact Box.store [.slice ra2 (mR + 1) rc2] 17 _ _ HX.out)
            replace HL := Lib.hid (show Below w.heap.size w v4 by rw [hV]; exact store_below (by have := HK3.out; have := HB1.out; omega) [.slice ra2 (mR + 1) rc2] 17 _ _ HL.out)
            replace HR := Lib.hid (HR.out.grown hg (by have := HK3.out; have := HB1.out; simp; omega))
            replace HA := Lib.hid (HA.out.grown hg (by have := HK3.out; have := HB1.out; simp; omega))
            replace HI0 := Lib.hid (hg.cell (a := ⟨b, off + j * 9, none⟩) HI0.out (by have := HK3.out; have := HB1.out; have := HBL.out; simp; omega))
            replace HBW := Lib.hid (Nat.le_trans HBW.out hg.size)
            replace HW1S := Lib.hid (Nat.le_trans HW1S.out hg.size)
            have HO9 := Lib.hid (HOn.out.offbox HX.out hg)
            clear hV hg HX o17 g17 hHeld HOn
            refine hKS.out _ _ (⟨HA.out.cell 13 _ rfl, HI0.out⟩) (fun hHeld => ?_)
            clear hKS
            try simp only [Act.put, List.setIfInBounds_toArray, List.set_cons_zero, List.set_cons_succ]
            refine wpAnyH_done (by kernel_rfl) ?_ _
            go_wp2_with fail
            go_roundw
            case rel => exact ⟨j + 1, mR + 1, ra2, rc2, by omega, by go_num, Lib.hid (.inr HGB.out), Lib.hid (by rw [HR2.out, ← HRJ.out, List.length_append, ← HMR.out]; rfl), HL, HA, HR, HXn, Lib.hid (by rw [HE7.out, HR2.out, ← HRJ.out]; exact HO9.out), HBW, HW1S⟩
            case measure => simp [intOf]; omega
          · refine AllReadyH.cons rfl (fun KB hKB => ?_) AllReadyH.nil
            go_simp
            have hb := bOne wd (.cells #[.int .i64 i] 3)
            have HT1 := Lib.hid (ris_int wd 3 i)
            replace HA := Lib.hid (HA.out.below hb)
            replace HR := Lib.hid (HR.out.below hb)
            replace HX := Lib.hid (HX.out.below hb)
            replace HO := Lib.hid (HO.out.below hb)
            replace HL := Lib.hid (low_after HL.out hb)
            replace HBW := Lib.hid (Nat.le_trans HBW.out hb.size)
            replace HW1S := Lib.hid (Nat.le_trans HW1S.out hb.size)
            replace HI0 := Lib.hid ((hb.cell (p := ⟨b, off + j * 9, none⟩) (World.block_lt_of_cell? _ _ HI0.out)).trans HI0.out)
            clear hb hHeld
            refine hKB.out _ _ (⟨HA.out.cell 13 _ rfl, HI0.out⟩) (fun hHeld => ?_)
            clear hKB
            try simp only [Act.put, List.setIfInBounds_toArray, List.set_cons_zero, List.set_cons_succ]
            refine wpAnyH_ready (rs := [1]) (by kernel_rfl) (by simp) ?_
            refine AllReadyH.cons rfl (fun KL hKL => ?_) AllReadyH.nil
            have o17 := HX.out.cell 17 _ rfl
            go_simp
            refine hKL.out _ _ (⟨HA.out.cell 13 _ rfl, HI0.out⟩) (fun hHeld => ?_)
            clear hKL
            try simp only [Act.put, List.setIfInBounds_toArray, List.set_cons_zero, List.set_cons_succ]
            clear o17
            refine wpAnyH_ready (rs := [9]) (by kernel_rfl) (by simp) ?_
            refine AllReadyH.cons rfl (fun KP hKP => ?_) AllReadyH.nil
            have HAP := Lib.hid (app_row (T := 28) (ty := 28) (cap := 1) (len := 1) inS Try.underlying28 infoInt' inZ (by decide) (by omega) (iown_row.1 HO.out.ltO) HT1.out (flat_in_one _) (by rw [← HMR.out]; omega) HBW.out)
            refine Lnk.step_append_run rfl (.tmp 40) (.tmp 47) _ rfl (.slice raj mR rcj) (.slice (some ⟨wd.heap.size, 0, none⟩) 1 1) (by simp [Act.eval, Act.put]) (by simp [Act.eval, Act.put]) HAP.out ?_
            intro v' v3 happ
            obtain ⟨ra2, rc2, rfl⟩ := ROwn.shapeL happ.1 (mR + 1) (by rw [List.length_append, ← HMR.out]; rfl)
            have hgz := happ.2.1
            have HOn := Lib.hid (HO.out.setLt hgz (iown_row.2 happ.1) happ.2.2)
            have hkb : ∀ z, (Value.slice raj mR rcj).ownBlock = some z → B1 ≤ z := fun z hz => (World.ownsRow.lt HO.out.ltO z hz).1
            have hne : ∀ z, z < B1 → some z ≠ (Value.slice raj mR rcj).ownBlock := fun z hz e => by have := hkb z e.symm; omega
            replace HX := Lib.hid (HX.out.grown hgz (box_ne (inR_at.2 HO.out.ltO) HX.out ne_ig))
            replace HA := Lib.hid (HA.out.grown hgz (hne _ (by have := HB1.out; omega)))
            replace HR := Lib.hid (HR.out.grown hgz (hne _ (by have := HB1.out; omega)))
            replace HI0 := Lib.hid (hgz.cell (a := ⟨b, off + j * 9, none⟩) HI0.out (hne b (by have := HB1.out; have := HBL.out; omega)))
            replace HL := Lib.hid (HL.out.grown hgz HL.out.size (fun z hz => by have := hkb z hz; have := HB1.out; omega))
            replace HBW := Lib.hid (Nat.le_trans HBW.out hgz.size)
            replace HW1S := Lib.hid (Nat.le_trans HW1S.out hgz.size)
            clear happ hgz hkb hne hHeld HT1 HAP HO
            refine hKP.out _ _ (⟨HA.out.cell 13 _ rfl, HI0.out⟩) (fun hHeld => ?_)
            clear hKP
            try simp only [Act.put, List.setIfInBounds_toArray, List.set_cons_zero, List.set_cons_succ]
            refine wpAnyH_take (i := 10) (oi := { dst := some _, op := _, type := _, pos := _, after := _, guard := _ }) (v := ?_) rfl (by kernel_rfl) (by kernel_rfl) (by kernel_rfl) (fun _ _ _ h => h) ?_ (by with_reducible assumption) ?_
            rotate_left 1
            focus (refine Or.inl ⟨by rfl, ?_⟩; intro wq hSw; go_simp; try with_reducible rfl)
            try simp only [Act.put, List.setIfInBounds_toArray, List.set_cons_zero, List.set_cons_succ]
            refine wpAnyH_ready (rs := [11]) (by kernel_rfl) (by simp) ?_
            refine AllReadyH.cons rfl (fun KS hKS => ?_) AllReadyH.nil
            have o17 := HX.out.cell 17 _ rfl
            have g17 := HX.out.frozen 17
            go_simp
            obtain ⟨v4, hV⟩ : ∃ V, V = v3.setCell ⟨k3, 17, none⟩ (.slice ra2 (mR + 1) rc2) := ⟨_, rfl⟩
            rw [← hV]
            have hg : v3.grownBy v4 (some k3) := by rw [hV]; exact store_grown [.slice ra2 (mR + 1) rc2] 17 _
            have HXn := Lib.hid (show Box v4 k3 38 [.int .i64 de, .int .i64 qu, .int .i64 wi, .int .i64 ti, .int .i64 qa, .int .i64 bu, .int .i64 le, .int .i64 pb, .int .i64 pc, .int .i64 pj, .int .i64 pt, .int .i64 nw, .int .i64 la, .slice (some ⟨ge, 0, none⟩) lE ec1, .slice ka1 lK kc1, .int .i64 tu, .slice fa1 lF fc1, .slice ra2 (mR + 1) rc2, .int .i64 tk, .int .i64 ac, .int .i64 dr] by rw [hV]; exact Box.store [.slice ra2 (mR + 1) rc2] 17 _ _ HX.out)
            replace HL := Lib.hid (show Below w.heap.size w v4 by rw [hV]; exact store_below (by have := HK3.out; have := HB1.out; omega) [.slice ra2 (mR + 1) rc2] 17 _ _ HL.out)
            replace HR := Lib.hid (HR.out.grown hg (by have := HK3.out; have := HB1.out; simp; omega))
            replace HA := Lib.hid (HA.out.grown hg (by have := HK3.out; have := HB1.out; simp; omega))
            replace HI0 := Lib.hid (hg.cell (a := ⟨b, off + j * 9, none⟩) HI0.out (by have := HK3.out; have := HB1.out; have := HBL.out; simp; omega))
            replace HBW := Lib.hid (Nat.le_trans HBW.out hg.size)
            replace HW1S := Lib.hid (Nat.le_trans HW1S.out hg.size)
            have HO9 := Lib.hid (HOn.out.offbox HX.out hg)
            clear hV hg HX o17 g17 hHeld HOn
            refine hKS.out _ _ (⟨HA.out.cell 13 _ rfl, HI0.out⟩) (fun hHeld => ?_)
            clear hKS
            try simp only [Act.put, List.setIfInBounds_toArray, List.set_cons_zero, List.set_cons_succ]
            refine wpAnyH_done (by kernel_rfl) ?_ _
            go_wp2_with fail
            go_roundw
            case rel => exact ⟨j + 1, mR + 1, ra2, rc2, by omega, by go_num, Lib.hid (.inr HGB.out), Lib.hid (by rw [HR2.out, ← HRJ.out, List.length_append, ← HMR.out]; rfl), HL, HA, HR, HXn, Lib.hid (by rw [HE7.out, HR2.out, ← HRJ.out]; exact HO9.out), HBW, HW1S⟩
            case measure => simp [intOf]; omega
    · have hjn : j = E.length := by have := HEL.out; omega
      have HE2 := Lib.hid (show sel (gokB de qu wi ti qa bu le pb pc pj pt nw la en kn tu fn rn tk ac dr E K F R) (deadEs le E R E.length) E = EJ by
        rcases HJ0.out with h | h
        · have h0 : E = [] := List.length_eq_zero_iff.1 (by omega)
          subst h0
          rw [HEJ.out, hjn]
          unfold sel
          split <;> rfl
        · rw [h, sel_yes, HEJ.out, hjn])
      have HR2 := Lib.hid (show sel (gokB de qu wi ti qa bu le pb pc pj pt nw la en kn tu fn rn tk ac dr E K F R) (deadR le E R E.length) R = RJ by
        rcases HJ0.out with h | h
        · have h0 : E = [] := List.length_eq_zero_iff.1 (by omega)
          subst h0
          rw [HRJ.out, hjn]
          unfold sel
          split <;> rfl
        · rw [h, sel_yes, HRJ.out, hjn])
      have HlE2 := Lib.hid (show lE = EJ.length by rw [HEJ.out, deadEs_len]; exact HlE.out)
      clear hjn
      go_wp2_with (first | (refine wpList_load_box rfl _ 38 rfl rfl HX.out _ Try.underlying38 sizeGate ?_) | (refine wpList_store_box rfl _ _ 38 rfl rfl [.int .i64 de, .int .i64 qu, .int .i64 wi, .int .i64 ti, .int .i64 qa, .int .i64 bu, .int .i64 le, .int .i64 pb, .int .i64 pc, .int .i64 pj, .int .i64 pt, .int .i64 nw, .int .i64 la, .slice ea1 lE ec1, .slice ka1 lK kc1, .int .i64 tu, .slice fa1 lF fc1, .slice raj mR rcj, .int .i64 tk, .int .i64 ac, .int .i64 dr] rfl HR.out sizeGate rfl rfl ?_; intro V hXb hgV hlV) | fail)
      rw [HE2.out, HR2.out]
      exact bodyPost_ret (v := .agg #[.int .i64 de, .int .i64 qu, .int .i64 wi, .int .i64 ti, .int .i64 qa, .int .i64 bu, .int .i64 le, .int .i64 pb, .int .i64 pc, .int .i64 pj, .int .i64 pt, .int .i64 nw, .int .i64 la, .slice ea1 lE ec1, .slice ka1 lK kc1, .int .i64 tu, .slice fa1 lF fc1, .slice raj mR rcj, .int .i64 tk, .int .i64 ac, .int .i64 dr]) (results_box _ Try.results27 rfl hXb _ Try.underlying38 sizeGate) rfl ⟨⟨ea1, ec1, ka1, kc1, fa1, fc1, raj, rcj, vs, by rw [← HlE2.out, ← HlK.out, ← HlF.out, ← HMR.out], by rw [← HlE2.out, ← HlK.out, ← HlF.out, ← HMR.out]; exact (HO.out.low hgV (by have := HB1.out; omega)).base (by have := HB1.out; omega)⟩, hlV w.heap.size w (by omega) HL.out⟩

end Go.Proofs.Ytlcllbdalabciaa.Gat
