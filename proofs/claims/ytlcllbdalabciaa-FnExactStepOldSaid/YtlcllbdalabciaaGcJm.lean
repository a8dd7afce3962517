/-
  The specification's StepLate.
-/
import Derived.Test.YtlcllbdalabciaaMgr
import Derived.Test.YtlcllbdalabciaaMgp
namespace Go.Proofs.Ytlcllbdalabciaa.Gat
open Go.RowKit
open Lnk (bOne bAfter IOwn IIs YOwn YIs below_keep below_drew' bcell low_after low_alloc grown_of_below latL latI)
set_option linter.unusedVariables false
set_option linter.unusedSimpArgs false

theorem box_ne {B : Nat} {w : World} {r : Rw} {k : Nat} {T : TypeId} {l : List Value} (h : r.At B w) (hb : Box w k T l) (hne : r.E ≠ T) : some k ≠ r.v.ownBlock := by
  rcases h.offbox hb hne with h1 | h1
  · rw [h1]; simp
  · exact Ne.symm h1
noncomputable def lateK (now : Int) (k : Lk) : Lk := ⟨k.up, k.ep, k.sq, latL k.up k.ep k.sq k.l now⟩
noncomputable def lateI (now : Int) (k : Lk) : List Int := latI k.up k.ep k.sq k.l now
theorem lateI_len (now : Int) (k : Lk) : (lateI now k).length ≤ k.l.length := by
  unfold lateI latI
  split
  · simp [Lnk.idsL, Lnk.goneL]
    exact List.length_filter_le _ _
  · simp
/-- the links of the first ones are late -/
noncomputable def lateKs (now : Int) (K : List Lk) (j : Nat) : List Lk := (K.take j).map (lateK now) ++ K.drop j
noncomputable def lateEs (now : Int) (K : List Lk) (E : List Ev) (j : Nat) : List Ev := (K.take j).foldl (fun E k => backE E (lateI now k)) E
theorem lateKs_zero (now : Int) (K : List Lk) : lateKs now K 0 = K := by simp [lateKs]
theorem lateKs_all (now : Int) (K : List Lk) : lateKs now K K.length = K.map (lateK now) := by simp [lateKs]
theorem lateKs_len (now : Int) (K : List Lk) (j : Nat) : (lateKs now K j).length = K.length := by simp [lateKs]; omega
theorem lateKs_step (now : Int) (K : List Lk) (j : Nat) {k : Lk} (h : j < K.length) (hk : K[j] = k) : (lateKs now K j).set j (lateK now k) = lateKs now K (j + 1) := by
  unfold lateKs
  have h1 : ((K.take j).map (lateK now)).length = j := by simp; omega
  rw [List.set_append, if_neg (by omega), h1, Nat.sub_self, List.drop_eq_getElem_cons h, List.set_cons_zero, List.take_succ_eq_append_getElem h, List.map_append, hk]
  simp
theorem lateEs_step (now : Int) (K : List Lk) (E : List Ev) (j : Nat) {k : Lk} (h : j < K.length) (hk : K[j] = k) : lateEs now K E (j + 1) = backE (lateEs now K E j) (lateI now k) := by
  unfold lateEs
  rw [List.take_succ_eq_append_getElem h, List.foldl_append, hk]
  rfl
theorem lateEs_len (now : Int) (K : List Lk) (E : List Ev) (j : Nat) : (lateEs now K E j).length = E.length := by
  unfold lateEs
  generalize K.take j = L
  induction L generalizing E with
  | nil => rfl
  | cons k L ih => rw [List.foldl_cons, ih, backE_len]
set_option maxRecDepth 100000 in
set_option maxHeartbeats 8000000 in
theorem specStepLate_any (w : World) (de qu wi ti qa bu le pb pc pj pt nw la : Int) (ea : Option Addr) (en ec : Nat) (ka : Option Addr) (kn kc : Nat) (tu : Int) (fa : Option Addr) (fn fc : Nat) (ra : Option Addr) (rn rc : Nat) (tk ac dr : Int) (E : List Ev) (K : List Lk) (F R : List Int) (h : GIs w.heap.size w ea en ka kn fa fn ra rn E K F R) (hs : Small en kn fn rn K) :
    Calls Try.prog 23 #[.agg #[.int .i64 de, .int .i64 qu, .int .i64 wi, .int .i64 ti, .int .i64 qa, .int .i64 bu, .int .i64 le, .int .i64 pb, .int .i64 pc, .int .i64 pj, .int .i64 pt, .int .i64 nw, .int .i64 la, .slice ea en ec, .slice ka kn kc, .int .i64 tu, .slice fa fn fc, .slice ra rn rc, .int .i64 tk, .int .i64 ac, .int .i64 dr]] w fun e w' => GEnd w w' de qu wi ti qa bu le pb pc pj pt nw la tu tk ac dr (sel (gokB de qu wi ti qa bu le pb pc pj pt nw la en kn tu fn rn tk ac dr E K F R) (lateEs nw K E K.length) E) (sel (gokB de qu wi ti qa bu le pb pc pj pt nw la en kn tu fn rn tk ac dr E K F R) (K.map (lateK nw)) K) F R e := by
  obtain ⟨W0, hW0⟩ : ∃ W, W = (w.alloc (.cells #[.int .i64 de, .int .i64 qu, .int .i64 wi, .int .i64 ti, .int .i64 qa, .int .i64 bu, .int .i64 le, .int .i64 pb, .int .i64 pc, .int .i64 pj, .int .i64 pt, .int .i64 nw, .int .i64 la, .slice ea en ec, .slice ka kn kc, .int .i64 tu, .slice fa fn fc, .slice ra rn rc, .int .i64 tk, .int .i64 ac, .int .i64 dr] 38)).alloc (.cells #[.int .i64 0, .int .i64 0, .int .i64 0, .int .i64 0, .int .i64 0, .int .i64 0, .int .i64 0, .int .i64 0, .int .i64 0, .int .i64 0, .int .i64 0, .int .i64 0, .int .i64 0, .slice none 0 0, .slice none 0 0, .int .i64 0, .slice none 0 0, .slice none 0 0, .int .i64 0, .int .i64 0, .int .i64 0] 38) := ⟨_, rfl⟩
  have hb01 := bOne w (.cells #[.int .i64 de, .int .i64 qu, .int .i64 wi, .int .i64 ti, .int .i64 qa, .int .i64 bu, .int .i64 le, .int .i64 pb, .int .i64 pc, .int .i64 pj, .int .i64 pt, .int .i64 nw, .int .i64 la, .slice ea en ec, .slice ka kn kc, .int .i64 tu, .slice fa fn fc, .slice ra rn rc, .int .i64 tk, .int .i64 ac, .int .i64 dr] 38)
  have hb02 := bOne (w.alloc (.cells #[.int .i64 de, .int .i64 qu, .int .i64 wi, .int .i64 ti, .int .i64 qa, .int .i64 bu, .int .i64 le, .int .i64 pb, .int .i64 pc, .int .i64 pj, .int .i64 pt, .int .i64 nw, .int .i64 la, .slice ea en ec, .slice ka kn kc, .int .i64 tu, .slice fa fn fc, .slice ra rn rc, .int .i64 tk, .int .i64 ac, .int .i64 dr] 38)) (.cells #[.int .i64 0, .int .i64 0, .int .i64 0, .int .i64 0, .int .i64 0, .int .i64 0, .int .i64 0, .int .i64 0, .int .i64 0, .int .i64 0, .int .i64 0, .int .i64 0, .int .i64 0, .slice none 0 0, .slice none 0 0, .int .i64 0, .slice none 0 0, .slice none 0 0, .int .i64 0, .int .i64 0, .int .i64 0] 38)
  have HA : Hid (Box W0 w.heap.size 38 [.int .i64 de, .int .i64 qu, .int .i64 wi, .int .i64 ti, .int .i64 qa, .int .i64 bu, .int .i64 le, .int .i64 pb, .int .i64 pc, .int .i64 pj, .int .i64 pt, .int .i64 nw, .int .i64 la, .slice ea en ec, .slice ka kn kc, .int .i64 tu, .slice fa fn fc, .slice ra rn rc, .int .i64 tk, .int .i64 ac, .int .i64 dr]) := Lib.hid (by rw [hW0]; exact (Box.new w [.int .i64 de, .int .i64 qu, .int .i64 wi, .int .i64 ti, .int .i64 qa, .int .i64 bu, .int .i64 le, .int .i64 pb, .int .i64 pc, .int .i64 pj, .int .i64 pt, .int .i64 nw, .int .i64 la, .slice ea en ec, .slice ka kn kc, .int .i64 tu, .slice fa fn fc, .slice ra rn rc, .int .i64 tk, .int .i64 ac, .int .i64 dr] 38).below hb02)
  have HR : Hid (Box W0 (w.heap.size + 1) 38 [.int .i64 0, .int .i64 0, .int .i64 0, .int .i64 0, .int .i64 0, .int .i64 0, .int .i64 0, .int .i64 0, .int .i64 0, .int .i64 0, .int .i64 0, .int .i64 0, .int .i64 0, .slice none 0 0, .slice none 0 0, .int .i64 0, .slice none 0 0, .slice none 0 0, .int .i64 0, .int .i64 0, .int .i64 0]) := Lib.hid (by
    rw [hW0]
    have := Box.new (w.alloc (.cells #[.int .i64 de, .int .i64 qu, .int .i64 wi, .int .i64 ti, .int .i64 qa, .int .i64 bu, .int .i64 le, .int .i64 pb, .int .i64 pc, .int .i64 pj, .int .i64 pt, .int .i64 nw, .int .i64 la, .slice ea en ec, .slice ka kn kc, .int .i64 tu, .slice fa fn fc, .slice ra rn rc, .int .i64 tk, .int .i64 ac, .int .i64 dr] 38)) [.int .i64 0, .int .i64 0, .int .i64 0, .int .i64 0, .int .i64 0, .int .i64 0, .int .i64 0, .int .i64 0, .int .i64 0, .int .i64 0, .int .i64 0, .int .i64 0, .int .i64 0, .slice none 0 0, .slice none 0 0, .int .i64 0, .slice none 0 0, .slice none 0 0, .int .i64 0, .int .i64 0, .int .i64 0] 38
    simpa using this)
  have HL : Hid (Below w.heap.size w W0) := Lib.hid (by rw [hW0]; exact hb01.trans (hb02.mono (by simp)))
  have HS0 := Lib.hid (show W0.heap.size = w.heap.size + 1 + 1 by rw [hW0]; simp)
  have HWE := Lib.hid hW0
  have HG := Lib.hid h
  have HSM := Lib.hid hs
  have HT0 := Lib.hid (show GIs W0.heap.size W0 ea en ka kn fa fn ra rn E K F R from h.here HL.out)
  clear hW0 hb01 hb02 h hs
  go_enter Try.func23, Try.ntmps23
  go_upto_region 1 with fail
  rw [← HWE.out]
  clear HWE
  obtain ⟨B1, hB1⟩ : ∃ B, B = W0.heap.size := ⟨_, rfl⟩
  have HB1 := Lib.hid (show w.heap.size + 1 < B1 by rw [hB1, HS0.out]; omega)
  go_wp2_with (first | (refine wpList_load_box rfl _ 38 rfl rfl HA.out _ Try.underlying38 sizeGate ?_) | fail)
  refine (specGCopy_any _ de qu wi ti qa bu le pb pc pj pt nw la ea en ec ka kn kc tu fa fn fc ra rn rc tk ac dr E K F R HT0.out HSM.out).mono ?_
  rintro e w1 ⟨⟨ea1, ec1, ka1, kc1, fa1, fc1, ra1, rc1, vs0, rfl, ho⟩, hb⟩
  rw [← hB1] at ho
  obtain ⟨lE, hlE⟩ : ∃ l, l = E.length := ⟨_, rfl⟩
  obtain ⟨lK, hlK⟩ : ∃ l, l = K.length := ⟨_, rfl⟩
  obtain ⟨lF, hlF⟩ : ∃ l, l = F.length := ⟨_, rfl⟩
  obtain ⟨lR, hlR⟩ : ∃ l, l = R.length := ⟨_, rfl⟩
  rw [← hlE, ← hlK, ← hlF, ← hlR] at ho ⊢
  have HlE := Lib.hid hlE
  have HlK := Lib.hid hlK
  have HlF := Lib.hid hlF
  have HlR := Lib.hid hlR
  have HO := Lib.hid ho
  have HOO := Lib.hid ho
  have HBW := Lib.hid (show B1 ≤ w1.heap.size by rw [hB1]; exact hb.size)
  have HWB := Lib.hid HBW.out
  replace HA := Lib.hid (HA.out.below hb)
  replace HR := Lib.hid (HR.out.below hb)
  replace HL := Lib.hid (low_after HL.out hb)
  clear hb ho hlE hlK hlF hlR hB1 HS0 HT0
  obtain ⟨k3, hk3⟩ : ∃ k, k = w1.heap.size := ⟨_, rfl⟩
  go_upto_region 2 with (first | (refine wpList_store_box rfl _ _ 38 rfl rfl [.int .i64 de, .int .i64 qu, .int .i64 wi, .int .i64 ti, .int .i64 qa, .int .i64 bu, .int .i64 le, .int .i64 pb, .int .i64 pc, .int .i64 pj, .int .i64 pt, .int .i64 nw, .int .i64 la, .slice ea1 lE ec1, .slice ka1 lK kc1, .int .i64 tu, .slice fa1 lF fc1, .slice ra1 lR rc1, .int .i64 tk, .int .i64 ac, .int .i64 dr] rfl (Box.new _ [.int .i64 0, .int .i64 0, .int .i64 0, .int .i64 0, .int .i64 0, .int .i64 0, .int .i64 0, .int .i64 0, .int .i64 0, .int .i64 0, .int .i64 0, .int .i64 0, .int .i64 0, .slice none 0 0, .slice none 0 0, .int .i64 0, .slice none 0 0, .slice none 0 0, .int .i64 0, .int .i64 0, .int .i64 0] 38) sizeGate rfl rfl ?_; intro V0 hXb hgV hlV; have HX := Lib.hid hXb; have HBV := Lib.hid (hlV w1.heap.size w1 (Nat.le_refl _) (bOne w1 _)); clear hXb hgV hlV) | fail)
  simp only [Act.put]
  rw [← hk3] at HX ⊢
  have HK3 := Lib.hid (show B1 ≤ k3 by rw [hk3]; exact HBW.out)
  have HW1S := Lib.hid (HBV.out.size)
  have HK3E := Lib.hid hk3
  clear hk3
  replace HA := Lib.hid (HA.out.below HBV.out)
  replace HR := Lib.hid (HR.out.below HBV.out)
  replace HL := Lib.hid (low_after HL.out HBV.out)
  replace HO := Lib.hid (HO.out.below HBV.out)
  replace HBW := Lib.hid (Nat.le_trans HBW.out HBV.out.size)
  clear HBV
  have HKL := Lib.hid HG.out.lk.hlen
  have HKN := Lib.hid (show kn ≤ 1048576 from HSM.out.2.1)
  go_upto_region 3 with fail
  go_loopw [4, 5, 6] (fun i s5 s6 wr => ∃ (j : Nat) (vs : List Value), j ≤ kn ∧ i = .int .i64 j ∧ Hid (j = 0 ∨ (gokB de qu wi ti qa bu le pb pc pj pt nw la en kn tu fn rn tk ac dr E K F R) = true) ∧ Hid (Below w.heap.size w wr) ∧ Hid (Box wr w.heap.size 38 [.int .i64 de, .int .i64 qu, .int .i64 wi, .int .i64 ti, .int .i64 qa, .int .i64 bu, .int .i64 le, .int .i64 pb, .int .i64 pc, .int .i64 pj, .int .i64 pt, .int .i64 nw, .int .i64 la, .slice ea en ec, .slice ka kn kc, .int .i64 tu, .slice fa fn fc, .slice ra rn rc, .int .i64 tk, .int .i64 ac, .int .i64 dr]) ∧ Hid (Box wr (w.heap.size + 1) 38 [.int .i64 0, .int .i64 0, .int .i64 0, .int .i64 0, .int .i64 0, .int .i64 0, .int .i64 0, .int .i64 0, .int .i64 0, .int .i64 0, .int .i64 0, .int .i64 0, .int .i64 0, .slice none 0 0, .slice none 0 0, .int .i64 0, .slice none 0 0, .slice none 0 0, .int .i64 0, .int .i64 0, .int .i64 0]) ∧ Hid (Box wr k3 38 [.int .i64 de, .int .i64 qu, .int .i64 wi, .int .i64 ti, .int .i64 qa, .int .i64 bu, .int .i64 le, .int .i64 pb, .int .i64 pc, .int .i64 pj, .int .i64 pt, .int .i64 nw, .int .i64 la, .slice ea1 lE ec1, .slice ka1 lK kc1, .int .i64 tu, .slice fa1 lF fc1, .slice ra1 lR rc1, .int .i64 tk, .int .i64 ac, .int .i64 dr]) ∧ Hid (GOwn B1 wr (.slice ea1 lE ec1) (.slice ka1 lK kc1) (.slice fa1 lF fc1) (.slice ra1 lR rc1) vs (lateEs nw K E j) (lateKs nw K j) F R) ∧ Hid (B1 ≤ wr.heap.size) ∧ Hid (w1.heap.size ≤ wr.heap.size)) (fun i _ _ _ => kn - (intOf i).toNat)
  case atStart => exact ⟨0, vs0, by omega, rfl, Lib.hid (.inl rfl), HL, HA, HR, HX, Lib.hid (by rw [lateKs_zero]; exact HO.out), HBW, HW1S⟩
  case round =>
    obtain ⟨j, vs, hj, rfl, HJ0, HL, HA, HR, HX, HO, HBW, HW1S⟩ := hrel
    have c14 := HA.out.cell 14 _ rfl
    have hkm := HKN.out
    obtain ⟨EJ, hEJ⟩ : ∃ X, X = lateEs nw K E j := ⟨_, rfl⟩
    obtain ⟨KJ, hKJ⟩ : ∃ X, X = lateKs nw K j := ⟨_, rfl⟩
    rw [← hEJ, ← hKJ] at HO
    have HEJ := Lib.hid hEJ
    have HKJ := Lib.hid hKJ
    clear hEJ hKJ
    by_cases hlt : (j : Int) < (kn : Int)
    · have hjl : j < K.length := by have := HKL.out; omega
      go_wp2_with (first | (refine wpList_loadg_box (by rfl) _ 38 rfl rfl HA.out _ Try.underlying38 sizeGate ?_) | fail)
      refine (specGateOk_any _ de qu wi ti qa bu le pb pc pj pt nw la ea en ec ka kn kc tu fa fn fc ra rn rc tk ac dr E K F R (HG.out.here HL.out)).mono ?_
      rintro e w2 ⟨⟨x, rfl, hx⟩, hb⟩
      have HGB := Lib.hid (gokB_of hx)
      have HXP := Lib.hid hx
      replace HA := Lib.hid (HA.out.below hb)
      replace HR := Lib.hid (HR.out.below hb)
      replace HX := Lib.hid (HX.out.below hb)
      replace HO := Lib.hid (HO.out.below hb)
      replace HL := Lib.hid (low_after HL.out hb)
      replace HBW := Lib.hid (Nat.le_trans HBW.out hb.size)
      replace HW1S := Lib.hid (Nat.le_trans HW1S.out hb.size)
      clear hb hx c14
      cases x with
      | false =>
        obtain rfl : j = 0 := by rcases HJ0.out with h | h; exact h; rw [HGB.out] at h; cases h
        go_wp2_with (first | (refine wpList_load_box rfl _ 38 rfl rfl HX.out _ Try.underlying38 sizeGate ?_) | (refine wpList_store_box rfl _ _ 38 rfl rfl [.int .i64 de, .int .i64 qu, .int .i64 wi, .int .i64 ti, .int .i64 qa, .int .i64 bu, .int .i64 le, .int .i64 pb, .int .i64 pc, .int .i64 pj, .int .i64 pt, .int .i64 nw, .int .i64 la, .slice ea1 lE ec1, .slice ka1 lK kc1, .int .i64 tu, .slice fa1 lF fc1, .slice ra1 lR rc1, .int .i64 tk, .int .i64 ac, .int .i64 dr] rfl HR.out sizeGate rfl rfl ?_; intro V hXb hgV hlV) | fail)
        rw [HGB.out, sel_no, sel_no]
        exact bodyPost_ret (v := .agg #[.int .i64 de, .int .i64 qu, .int .i64 wi, .int .i64 ti, .int .i64 qa, .int .i64 bu, .int .i64 le, .int .i64 pb, .int .i64 pc, .int .i64 pj, .int .i64 pt, .int .i64 nw, .int .i64 la, .slice ea1 lE ec1, .slice ka1 lK kc1, .int .i64 tu, .slice fa1 lF fc1, .slice ra1 lR rc1, .int .i64 tk, .int .i64 ac, .int .i64 dr]) (results_box _ Try.results23 rfl hXb _ Try.underlying38 sizeGate) rfl ⟨⟨ea1, ec1, ka1, kc1, fa1, fc1, ra1, rc1, vs, by rw [← HlE.out, ← HlK.out, ← HlF.out, ← HlR.out], by rw [← HlE.out, ← HlK.out, ← HlF.out, ← HlR.out]; have h := (HO.out.low hgV (by have := HB1.out; omega)).base (B' := w.heap.size) (by have := HB1.out; omega); rw [HEJ.out, HKJ.out, lateKs_zero] at h; exact h⟩, hlV w.heap.size w (by omega) HL.out⟩
      | true =>
        have HP := Lib.hid (HXP.out.1 rfl)
        clear HXP
        obtain ⟨b, off, up, ep, sq, y, fa0, fl, fc0, rfl, hbl, hlj, hy, c4⟩ := (HG.out.lk.below HL.out).at j hjl
        have HLJ := Lib.hid hlj
        have HBL := Lib.hid hbl
        have HC4 := Lib.hid c4
        have HY := Lib.hid (hy.mono HL.out.size)
        have HYF := Lib.hid (show y.length ≤ 1048576 by have h1 := HSM.out.2.2.1 K[j] (List.getElem_mem _); rw [hlj] at h1; exact h1)
        clear hlj hy hbl c4
        obtain ⟨L, hL⟩ : ∃ L, L = latL up ep sq y nw := ⟨_, rfl⟩
        obtain ⟨lL, hlL⟩ : ∃ l, l = L.length := ⟨_, rfl⟩
        obtain ⟨I, hI⟩ : ∃ A, A = latI up ep sq y nw := ⟨_, rfl⟩
        obtain ⟨lI, hlI⟩ : ∃ l, l = I.length := ⟨_, rfl⟩
        have HLL := Lib.hid hL
        have HlL := Lib.hid hlL
        have HII := Lib.hid hI
        have HlI := Lib.hid hlI
        have HIL := Lib.hid (show I.length ≤ 1048576 by rw [hI]; exact Nat.le_trans (lateI_len nw ⟨up, ep, sq, y⟩) HYF.out)
        clear hL hlL hI hlI
        go_upto_region 5 with fail
        go_cut [5, 6] (fun s8 s9 wx => ∃ k8 a2 cap2 a3 cap3, s8 = .pointer (some ⟨k8, 0, none⟩) ∧ s9 = .slice a3 lI cap3 ∧ Hid (Box wx k8 56 [.bool up, .int .i64 ep, .int .i64 sq, .slice a2 lL cap2]) ∧ Hid (Rws B1 wx ([flR (.slice a2 lL cap2) L, inR (.slice a3 lI cap3) I] ++ gRows (.slice ea1 lE ec1) (.slice ka1 lK kc1) (.slice fa1 lF fc1) (.slice ra1 lR rc1) vs EJ KJ F R)) ∧ Hid (Box wx w.heap.size 38 [.int .i64 de, .int .i64 qu, .int .i64 wi, .int .i64 ti, .int .i64 qa, .int .i64 bu, .int .i64 le, .int .i64 pb, .int .i64 pc, .int .i64 pj, .int .i64 pt, .int .i64 nw, .int .i64 la, .slice ea en ec, .slice (some ⟨b, off, none⟩) kn kc, .int .i64 tu, .slice fa fn fc, .slice ra rn rc, .int .i64 tk, .int .i64 ac, .int .i64 dr]) ∧ Hid (Box wx (w.heap.size + 1) 38 [.int .i64 0, .int .i64 0, .int .i64 0, .int .i64 0, .int .i64 0, .int .i64 0, .int .i64 0, .int .i64 0, .int .i64 0, .int .i64 0, .int .i64 0, .int .i64 0, .int .i64 0, .slice none 0 0, .slice none 0 0, .int .i64 0, .slice none 0 0, .slice none 0 0, .int .i64 0, .int .i64 0, .int .i64 0]) ∧ Hid (Box wx k3 38 [.int .i64 de, .int .i64 qu, .int .i64 wi, .int .i64 ti, .int .i64 qa, .int .i64 bu, .int .i64 le, .int .i64 pb, .int .i64 pc, .int .i64 pj, .int .i64 pt, .int .i64 nw, .int .i64 la, .slice ea1 lE ec1, .slice ka1 lK kc1, .int .i64 tu, .slice fa1 lF fc1, .slice ra1 lR rc1, .int .i64 tk, .int .i64 ac, .int .i64 dr]) ∧ Hid (Below w.heap.size w wx) ∧ Hid (B1 ≤ wx.heap.size) ∧ Hid (w1.heap.size ≤ k8))
        case first =>
          have HQ := Lib.hid (below_drew' (Below.refl w2.heap.size w2))
          replace HA := Lib.hid (HA.out.below HQ.out)
          replace HR := Lib.hid (HR.out.below HQ.out)
          replace HX := Lib.hid (HX.out.below HQ.out)
          replace HO := Lib.hid (HO.out.below HQ.out)
          replace HL := Lib.hid (low_after HL.out HQ.out)
          replace HBW := Lib.hid (Nat.le_trans HBW.out HQ.out.size)
          replace HW1S := Lib.hid (Nat.le_trans HW1S.out HQ.out.size)
          replace HC4 := Lib.hid (c4_below HC4.out HQ.out)
          replace HY := Lib.hid (HY.out.here HQ.out)
          refine wp_region_held_drew (S := fun w' => (w'.cell? ⟨w.heap.size, 14, none⟩ = some (.slice (some ⟨b, off, none⟩) kn kc) ∧ w'.cell? ⟨b, off + j * 4, none⟩ = some (.bool up) ∧ w'.cell? ⟨b, off + j * 4 + 1, none⟩ = some (.int .i64 ep) ∧ w'.cell? ⟨b, off + j * 4 + 2, none⟩ = some (.int .i64 sq) ∧ w'.cell? ⟨b, off + j * 4 + 3, none⟩ = some (.slice fa0 fl fc0) ∧ w'.cell? ⟨w.heap.size, 11, none⟩ = some (.int .i64 nw))) (by kernel_rfl) ⟨HA.out.cell 14 _ rfl, HC4.out.c0, HC4.out.c1, HC4.out.c2, HC4.out.c3, HA.out.cell 11 _ rfl⟩ (fun hHeld => ?_)
          obtain ⟨wd, hwd⟩ : ∃ x, x = w2.drew := ⟨_, rfl⟩
          rw [← hwd] at HA HR HX HO HL HBW HW1S HC4 HY hHeld ⊢
          clear HQ hwd
          refine wpAnyH_take (i := 0) (oi := { dst := some _, op := _, type := _, pos := _, after := _, guard := _ }) (v := ?_) rfl (by kernel_rfl) (by kernel_rfl) (by kernel_rfl) (fun _ _ _ h => h) ?_ (by with_reducible assumption) ?_
          rotate_left 1
          focus (refine Or.inl ⟨by rfl, ?_⟩; intro wq hSw; go_simp; try with_reducible rfl)
          try simp only [Act.put, List.setIfInBounds_toArray, List.set_cons_zero, List.set_cons_succ]
          refine wpAnyH_take (i := 1) (oi := { dst := some _, op := _, type := _, pos := _, after := _, guard := _ }) (v := ?_) rfl (by kernel_rfl) (by kernel_rfl) (by kernel_rfl) (fun _ _ _ h => h) ?_ (by with_reducible assumption) ?_
          rotate_left 1
          focus (refine Or.inl ⟨by rfl, ?_⟩; intro wq hSw; have q := hSw.1; go_simp; try with_reducible rfl)
          try simp only [Act.put, List.setIfInBounds_toArray, List.set_cons_zero, List.set_cons_succ]
          refine wpAnyH_take (i := 2) (oi := { dst := some _, op := _, type := _, pos := _, after := _, guard := _ }) (v := ?_) rfl (by kernel_rfl) (by kernel_rfl) (by kernel_rfl) (fun _ _ _ h => h) ?_ (by with_reducible assumption) ?_
          rotate_left 1
          focus (refine Or.inl ⟨by rfl, ?_⟩; intro wq hSw; go_simp; try with_reducible rfl)
          try simp only [Act.put, List.setIfInBounds_toArray, List.set_cons_zero, List.set_cons_succ]
          refine wpAnyH_take (i := 3) (oi := { dst := some _, op := _, type := _, pos := _, after := _, guard := _ }) (v := ?_) rfl (by kernel_rfl) (by kernel_rfl) (by kernel_rfl) (fun _ _ _ h => h) ?_ (by with_reducible assumption) ?_
          rotate_left 1
          focus (refine Or.inl ⟨by rfl, ?_⟩; intro wq hSw; go_simp; try with_reducible rfl)
          try simp only [Act.put, List.setIfInBounds_toArray, List.set_cons_zero, List.set_cons_succ]
          refine wpAnyH_take (i := 4) (oi := { dst := some _, op := _, type := _, pos := _, after := _, guard := _ }) (v := ?_) rfl (by kernel_rfl) (by kernel_rfl) (by kernel_rfl) (fun _ _ _ h => h) ?_ (by with_reducible assumption) ?_
          rotate_left 1
          focus (refine Or.inl ⟨by rfl, ?_⟩; intro wq hSw; have q1 := hSw.2.1; have q2 := hSw.2.2.1; have q3 := hSw.2.2.2.1; have q4 := hSw.2.2.2.2.1; go_simp; try with_reducible rfl)
          try simp only [Act.put, List.setIfInBounds_toArray, List.set_cons_zero, List.set_cons_succ]
          refine wpAnyH_take (i := 5) (oi := { dst := some _, op := _, type := _, pos := _, after := _, guard := _ }) (v := ?_) rfl (by kernel_rfl) (by kernel_rfl) (by kernel_rfl) (fun _ _ _ h => h) ?_ (by with_reducible assumption) ?_
          rotate_left 1
          focus (refine Or.inl ⟨by rfl, ?_⟩; intro wq hSw; go_simp; try with_reducible rfl)
          try simp only [Act.put, List.setIfInBounds_toArray, List.set_cons_zero, List.set_cons_succ]
          refine wpAnyH_take (i := 6) (oi := { dst := some _, op := _, type := _, pos := _, after := _, guard := _ }) (v := ?_) rfl (by kernel_rfl) (by kernel_rfl) (by kernel_rfl) (fun _ _ _ h => h) ?_ (by with_reducible assumption) ?_
          rotate_left 1
          focus (refine Or.inl ⟨by rfl, ?_⟩; intro wq hSw; have q := hSw.2.2.2.2.2; go_simp; try with_reducible rfl)
          try simp only [Act.put, List.setIfInBounds_toArray, List.set_cons_zero, List.set_cons_succ]
          refine wpAnyH_ready (rs := [7, 11]) (by kernel_rfl) (by simp) ?_
          refine AllReadyH.cons rfl (fun KC hKC => ?_) ?_
          · go_simp
            refine (Lnk.specLateC_any _ fa0 fl fc0 up ep sq y nw HY.out (by have := HY.out.hlen; have := HYF.out; omega)).mono ?_
            rintro e v1 ⟨⟨a2, cap2, a3, cap3, rfl, hoy, hoi⟩, hb⟩
            rw [← HLL.out, ← HlL.out] at hoy ⊢
            rw [← HII.out, ← HlI.out] at hoi ⊢
            have HRW := Lib.hid (HO.out.rows.app hb (pairApart (r := flR (.slice a2 lL cap2) L) (s := inR (.slice a3 lI cap3) I) hoy hoi ne_fi) HBW.out)
            have HNW := Lib.hid (And.intro hoy hoi)
            replace HA := Lib.hid (HA.out.below hb)
            replace HR := Lib.hid (HR.out.below hb)
            replace HX := Lib.hid (HX.out.below hb)
            replace HO := Lib.hid (HO.out.below hb)
            replace HL := Lib.hid (low_after HL.out hb)
            replace HBW := Lib.hid (Nat.le_trans HBW.out hb.size)
            replace HW1S := Lib.hid (Nat.le_trans HW1S.out hb.size)
            replace HC4 := Lib.hid (c4_below HC4.out hb)
            replace HY := Lib.hid (HY.out.here hb)
            clear hb hoy hoi hHeld
            dsimp only
            refine hKC.out _ _ (⟨HA.out.cell 14 _ rfl, HC4.out.c0, HC4.out.c1, HC4.out.c2, HC4.out.c3, HA.out.cell 11 _ rfl⟩) (fun hHeld => ?_)
            clear hKC
            try simp only [Act.put, List.setIfInBounds_toArray, List.set_cons_zero, List.set_cons_succ]
            refine wpAnyH_take (i := 8) (oi := { dst := some _, op := _, type := _, pos := _, after := _, guard := _ }) (v := ?_) rfl (by kernel_rfl) (by kernel_rfl) (by kernel_rfl) (fun _ _ _ h => h) ?_ (by with_reducible assumption) ?_
            rotate_left 1
            focus (refine Or.inl ⟨by rfl, ?_⟩; intro wq hSw; go_simp; try with_reducible rfl)
            try simp only [Act.put, List.setIfInBounds_toArray, List.set_cons_zero, List.set_cons_succ]
            refine wpAnyH_take (i := 9) (oi := { dst := some _, op := _, type := _, pos := _, after := _, guard := _ }) (v := ?_) rfl (by kernel_rfl) (by kernel_rfl) (by kernel_rfl) (fun _ _ _ h => h) ?_ (by with_reducible assumption) ?_
            rotate_left 1
            focus (refine Or.inl ⟨by rfl, ?_⟩; intro wq hSw; go_simp; try with_reducible rfl)
            try simp only [Act.put, List.setIfInBounds_toArray, List.set_cons_zero, List.set_cons_succ]
            refine wpAnyH_take (i := 10) (oi := { dst := some _, op := _, type := _, pos := _, after := _, guard := _ }) (v := ?_) rfl (by kernel_rfl) (by kernel_rfl) (by kernel_rfl) (fun _ _ _ h => h) ?_ (by with_reducible assumption) ?_
            rotate_left 1
            focus (refine Or.inl ⟨by rfl, ?_⟩; intro wq hSw; go_simp; try with_reducible rfl)
            try simp only [Act.put, List.setIfInBounds_toArray, List.set_cons_zero, List.set_cons_succ]
            refine wpAnyH_ready (rs := [11]) (by kernel_rfl) (by simp) ?_
            refine AllReadyH.cons rfl (fun KB hKB => ?_) AllReadyH.nil
            obtain ⟨k8, hk8⟩ : ∃ k, k = v1.heap.size := ⟨_, rfl⟩
            have HK8 := Lib.hid (show w1.heap.size ≤ k8 by rw [hk8]; exact HW1S.out)
            have HX3 := Lib.hid (show k3 < k8 by rw [hk8]; exact HX.out.lt)
            have hb := bOne v1 (.cells #[.bool false, .int .i64 0, .int .i64 0, .slice none 0 0] 56)
            have HB8 := Lib.hid (show Box (v1.alloc (.cells #[.bool false, .int .i64 0, .int .i64 0, .slice none 0 0] 56)) k8 56 [.bool false, .int .i64 0, .int .i64 0, .slice none 0 0] by rw [hk8]; exact Box.new v1 [.bool false, .int .i64 0, .int .i64 0, .slice none 0 0] 56)
            have HNE8 := Lib.hid (fun r (hr : r ∈ [flR (.slice a2 lL cap2) L, inR (.slice a3 lI cap3) I] ++ gRows (.slice ea1 lE ec1) (.slice ka1 lK kc1) (.slice fa1 lF fc1) (.slice ra1 lR rc1) vs EJ KJ F R) => ne_old (HRW.out.at_ r hr) hk8)
            go_simp
            rw [← hk8]
            replace HRW := Lib.hid (HRW.out.below hb)
            replace HA := Lib.hid (HA.out.below hb)
            replace HR := Lib.hid (HR.out.below hb)
            replace HX := Lib.hid (HX.out.below hb)
            replace HO := Lib.hid (HO.out.below hb)
            replace HL := Lib.hid (low_after HL.out hb)
            replace HBW := Lib.hid (Nat.le_trans HBW.out hb.size)
            replace HW1S := Lib.hid (Nat.le_trans HW1S.out hb.size)
            replace HC4 := Lib.hid (c4_below HC4.out hb)
            replace HY := Lib.hid (HY.out.here hb)
            clear hb hk8 hHeld HNW
            refine hKB.out _ _ (⟨HA.out.cell 14 _ rfl, HC4.out.c0, HC4.out.c1, HC4.out.c2, HC4.out.c3, HA.out.cell 11 _ rfl⟩) (fun hHeld => ?_)
            clear hKB
            try simp only [Act.put, List.setIfInBounds_toArray, List.set_cons_zero, List.set_cons_succ]
            refine wpAnyH_ready (rs := [12]) (by kernel_rfl) (by simp) ?_
            refine AllReadyH.cons rfl (fun KS hKS => ?_) AllReadyH.nil
            refine step_store_box rfl _ _ 56 rfl rfl [.bool up, .int .i64 ep, .int .i64 sq, .slice a2 lL cap2] rfl HB8.out sizeLnk rfl rfl ?_
            intro v3 hXb hgV hlV
            have hk8 := HK8.out
            replace HA := Lib.hid (HA.out.grown hgV (by have := HB1.out; have := HWB.out; simp; omega))
            replace HR := Lib.hid (HR.out.grown hgV (by have := HB1.out; have := HWB.out; simp; omega))
            replace HX := Lib.hid (HX.out.grown hgV (by have := HX3.out; simp; omega))
            replace HL := Lib.hid (hlV w.heap.size w (by have := HB1.out; have := HWB.out; omega) HL.out)
            replace HC4 := Lib.hid (c4_grown HC4.out hgV (by have := HB1.out; have := HWB.out; have := HBL.out; simp; omega))
            replace HRW := Lib.hid (HRW.out.kept hgV (fun r hr => HNE8.out r hr))
            replace HBW := Lib.hid (Nat.le_trans HBW.out hgV.size)
            have HBX := Lib.hid hXb
            clear hXb hgV hlV hHeld hk8
            refine hKS.out _ _ (⟨HA.out.cell 14 _ rfl, HC4.out.c0, HC4.out.c1, HC4.out.c2, HC4.out.c3, HA.out.cell 11 _ rfl⟩) (fun hHeld => ?_)
            clear hKS
            try simp only [Act.put, List.setIfInBounds_toArray, List.set_cons_zero, List.set_cons_succ]
            refine wpAnyH_take (i := 13) (oi := { dst := some _, op := _, type := _, pos := _, after := _, guard := _ }) (v := ?_) rfl (by kernel_rfl) (by kernel_rfl) (by kernel_rfl) (fun _ _ _ h => h) ?_ (by with_reducible assumption) ?_
            rotate_left 1
            focus (refine Or.inl ⟨by rfl, ?_⟩; intro wq hSw; go_simp; try with_reducible rfl)
            try simp only [Act.put, List.setIfInBounds_toArray, List.set_cons_zero, List.set_cons_succ]
            refine wpAnyH_done (by kernel_rfl) ?_ _
            go_wp2_with fail
            go_meet
            exact ⟨k8, a2, cap2, a3, cap3, rfl, rfl, HBX, HRW, HA, HR, HX, HL, HBW, HK8⟩
          · refine AllReadyH.cons rfl (fun KB hKB => ?_) AllReadyH.nil
            obtain ⟨k8, hk8⟩ : ∃ k, k = wd.heap.size := ⟨_, rfl⟩
            have HK8 := Lib.hid (show w1.heap.size ≤ k8 by rw [hk8]; exact HW1S.out)
            have HX3 := Lib.hid (show k3 < k8 by rw [hk8]; exact HX.out.lt)
            have hb := bOne wd (.cells #[.bool false, .int .i64 0, .int .i64 0, .slice none 0 0] 56)
            have HB8 := Lib.hid (show Box (wd.alloc (.cells #[.bool false, .int .i64 0, .int .i64 0, .slice none 0 0] 56)) k8 56 [.bool false, .int .i64 0, .int .i64 0, .slice none 0 0] by rw [hk8]; exact Box.new wd [.bool false, .int .i64 0, .int .i64 0, .slice none 0 0] 56)
            have HNEg := Lib.hid (fun r (hr : r ∈ gRows (.slice ea1 lE ec1) (.slice ka1 lK kc1) (.slice fa1 lF fc1) (.slice ra1 lR rc1) vs EJ KJ F R) => ne_old (HO.out.rows.at_ r hr) hk8)
            have HK8s := Lib.hid (show k8 < wd.heap.size + 1 by omega)
            go_simp
            rw [← hk8]
            replace HA := Lib.hid (HA.out.below hb)
            replace HR := Lib.hid (HR.out.below hb)
            replace HX := Lib.hid (HX.out.below hb)
            replace HO := Lib.hid (HO.out.below hb)
            replace HL := Lib.hid (low_after HL.out hb)
            replace HBW := Lib.hid (Nat.le_trans HBW.out hb.size)
            replace HW1S := Lib.hid (Nat.le_trans HW1S.out hb.size)
            replace HC4 := Lib.hid (c4_below HC4.out hb)
            replace HY := Lib.hid (HY.out.here hb)
            clear hb hk8 hHeld
            refine hKB.out _ _ (⟨HA.out.cell 14 _ rfl, HC4.out.c0, HC4.out.c1, HC4.out.c2, HC4.out.c3, HA.out.cell 11 _ rfl⟩) (fun hHeld => ?_)
            clear hKB
            try simp only [Act.put, List.setIfInBounds_toArray, List.set_cons_zero, List.set_cons_succ]
            refine wpAnyH_ready (rs := [7]) (by kernel_rfl) (by simp) ?_
            refine AllReadyH.cons rfl (fun KC hKC => ?_) AllReadyH.nil
            go_simp
            refine (Lnk.specLateC_any _ fa0 fl fc0 up ep sq y nw HY.out (by have := HY.out.hlen; have := HYF.out; omega)).mono ?_
            rintro e v1 ⟨⟨a2, cap2, a3, cap3, rfl, hoy, hoi⟩, hb⟩
            rw [← HLL.out, ← HlL.out] at hoy ⊢
            rw [← HII.out, ← HlI.out] at hoi ⊢
            have HNE8 := Lib.hid (fun r (hr : r ∈ [flR (.slice a2 lL cap2) L, inR (.slice a3 lI cap3) I] ++ gRows (.slice ea1 lE ec1) (.slice ka1 lK kc1) (.slice fa1 lF fc1) (.slice ra1 lR rc1) vs EJ KJ F R) => show r.v.ownBlock = none ∨ r.v.ownBlock ≠ some k8 from by
              rcases List.mem_append.1 hr with hr | hr
              · have hat : r.At (wd.heap.size + 1) v1 := by
                  rcases List.mem_cons.1 hr with rfl | hr
                  · exact (flR_at.2 hoy).base (by simp)
                  · rw [List.mem_singleton.1 hr]; exact (inR_at.2 hoi).base (by simp)
                cases hv : r.v.ownBlock with
                | none => exact .inl rfl
                | some q => exact .inr (fun e => by injection e; have h1 := (hat.lt q hv).1; have := HK8s.out; omega)
              · exact HNEg.out r hr)
            have HRW := Lib.hid (HO.out.rows.app hb (pairApart (r := flR (.slice a2 lL cap2) L) (s := inR (.slice a3 lI cap3) I) hoy hoi ne_fi) HBW.out)
            replace HA := Lib.hid (HA.out.below hb)
            replace HR := Lib.hid (HR.out.below hb)
            replace HX := Lib.hid (HX.out.below hb)
            replace HO := Lib.hid (HO.out.below hb)
            replace HB8 := Lib.hid (HB8.out.below hb)
            replace HL := Lib.hid (low_after HL.out hb)
            replace HBW := Lib.hid (Nat.le_trans HBW.out hb.size)
            replace HW1S := Lib.hid (Nat.le_trans HW1S.out hb.size)
            replace HC4 := Lib.hid (c4_below HC4.out hb)
            replace HY := Lib.hid (HY.out.here hb)
            clear hb hoy hoi hHeld
            dsimp only
            refine hKC.out _ _ (⟨HA.out.cell 14 _ rfl, HC4.out.c0, HC4.out.c1, HC4.out.c2, HC4.out.c3, HA.out.cell 11 _ rfl⟩) (fun hHeld => ?_)
            clear hKC
            try simp only [Act.put, List.setIfInBounds_toArray, List.set_cons_zero, List.set_cons_succ]
            refine wpAnyH_take (i := 8) (oi := { dst := some _, op := _, type := _, pos := _, after := _, guard := _ }) (v := ?_) rfl (by kernel_rfl) (by kernel_rfl) (by kernel_rfl) (fun _ _ _ h => h) ?_ (by with_reducible assumption) ?_
            rotate_left 1
            focus (refine Or.inl ⟨by rfl, ?_⟩; intro wq hSw; go_simp; try with_reducible rfl)
            try simp only [Act.put, List.setIfInBounds_toArray, List.set_cons_zero, List.set_cons_succ]
            refine wpAnyH_take (i := 9) (oi := { dst := some _, op := _, type := _, pos := _, after := _, guard := _ }) (v := ?_) rfl (by kernel_rfl) (by kernel_rfl) (by kernel_rfl) (fun _ _ _ h => h) ?_ (by with_reducible assumption) ?_
            rotate_left 1
            focus (refine Or.inl ⟨by rfl, ?_⟩; intro wq hSw; go_simp; try with_reducible rfl)
            try simp only [Act.put, List.setIfInBounds_toArray, List.set_cons_zero, List.set_cons_succ]
            refine wpAnyH_take (i := 10) (oi := { dst := some _, op := _, type := _, pos := _, after := _, guard := _ }) (v := ?_) rfl (by kernel_rfl) (by kernel_rfl) (by kernel_rfl) (fun _ _ _ h => h) ?_ (by with_reducible assumption) ?_
            rotate_left 1
            focus (refine Or.inl ⟨by rfl, ?_⟩; intro wq hSw; go_simp; try with_reducible rfl)
            try simp only [Act.put, List.setIfInBounds_toArray, List.set_cons_zero, List.set_cons_succ]
            refine wpAnyH_ready (rs := [12]) (by kernel_rfl) (by simp) ?_
            refine AllReadyH.cons rfl (fun KS hKS => ?_) AllReadyH.nil
            refine step_store_box rfl _ _ 56 rfl rfl [.bool up, .int .i64 ep, .int .i64 sq, .slice a2 lL cap2] rfl HB8.out sizeLnk rfl rfl ?_
            intro v3 hXb hgV hlV
            have hk8 := HK8.out
            replace HA := Lib.hid (HA.out.grown hgV (by have := HB1.out; have := HWB.out; simp; omega))
            replace HR := Lib.hid (HR.out.grown hgV (by have := HB1.out; have := HWB.out; simp; omega))
            replace HX := Lib.hid (HX.out.grown hgV (by have := HX3.out; simp; omega))
            replace HL := Lib.hid (hlV w.heap.size w (by have := HB1.out; have := HWB.out; omega) HL.out)
            replace HC4 := Lib.hid (c4_grown HC4.out hgV (by have := HB1.out; have := HWB.out; have := HBL.out; simp; omega))
            replace HRW := Lib.hid (HRW.out.kept hgV (fun r hr => HNE8.out r hr))
            replace HBW := Lib.hid (Nat.le_trans HBW.out hgV.size)
            have HBX := Lib.hid hXb
            clear hXb hgV hlV hHeld hk8
            refine hKS.out _ _ (⟨HA.out.cell 14 _ rfl, HC4.out.c0, HC4.out.c1, HC4.out.c2, HC4.out.c3, HA.out.cell 11 _ rfl⟩) (fun hHeld => ?_)
            clear hKS
            try simp only [Act.put, List.setIfInBounds_toArray, List.set_cons_zero, List.set_cons_succ]
            refine wpAnyH_take (i := 13) (oi := { dst := some _, op := _, type := _, pos := _, after := _, guard := _ }) (v := ?_) rfl (by kernel_rfl) (by kernel_rfl) (by kernel_rfl) (fun _ _ _ h => h) ?_ (by with_reducible assumption) ?_
            rotate_left 1
            focus (refine Or.inl ⟨by rfl, ?_⟩; intro wq hSw; go_simp; try with_reducible rfl)
            try simp only [Act.put, List.setIfInBounds_toArray, List.set_cons_zero, List.set_cons_succ]
            refine wpAnyH_done (by kernel_rfl) ?_ _
            go_wp2_with fail
            go_meet
            exact ⟨k8, a2, cap2, a3, cap3, rfl, rfl, HBX, HRW, HA, HR, HX, HL, HBW, HK8⟩
        case rest =>
          obtain ⟨k8, a2, cap2, a3, cap3, rfl, rfl, HB8, HRW, HA, HR, HX, HL, HBW, HK8⟩ := hcut
          rename_i wc
          have HO := Lib.hid (show GOwn B1 wc (.slice ea1 lE ec1) (.slice ka1 lK kc1) (.slice fa1 lF fc1) (.slice ra1 lR rc1) vs EJ KJ F R from ⟨(HRW.out.sub (by exact (List.sublist_append_right _ _))), HO.out.len, HO.out.body⟩)
          obtain ⟨gk, hgk⟩ := own_some HOO.out.lkO (by rw [rawOf_len HOO.out.len]; omega)
          obtain ⟨rfl, hgw⟩ := hgk
          have hKJL : KJ.length = K.length := by rw [HKJ.out, lateKs_len]
          have hmr : j < (rawOf KJ vs).length := by rw [rawOf_len HO.out.len]; omega
          obtain ⟨⟨z0, z1, z2, z3, hzz, e0, e1, e2, e3⟩, f0, f1, f2, f3⟩ := lown_at HO.out.lkO j hmr
          have hst := lown_set HO.out.lkO j hmr up ep sq (.slice a2 lL cap2)
          have HST := Lib.hid hst
          have o14 := HX.out.cell 14 _ rfl
          have b0 := HB8.out.cell 0 _ rfl
          have b1 := HB8.out.cell 1 _ rfl
          have b2 := HB8.out.cell 2 _ rfl
          have b3 := HB8.out.cell 3 _ rfl
          have hmlk : (j : Int) < (lK : Int) := by have h2 := HlK.out; omega
          have HGW := Lib.hid hgw
          have HGB1 := Lib.hid (show B1 ≤ gk from (World.ownsRow.lt HOO.out.lkO gk rfl).1)
          have HKJL := Lib.hid hKJL
          clear hst hmr hzz hgw hKJL HC4 HY
          go_upto_region 7 with fail
          clear e0 e1 e2 e3 f0 f1 f2 f3 o14 b0 b1 b2 b3 z0 z1 z2 z3
          obtain ⟨w4, hw4⟩ : ∃ V, V = ((((wc.setCell ⟨gk, j * 4, none⟩ (.bool up)).setCell ⟨gk, j * 4 + 1, none⟩ (.int .i64 ep)).setCell ⟨gk, j * 4 + 2, none⟩ (.int .i64 sq)).setCell ⟨gk, j * 4 + 3, none⟩ (.slice a2 lL cap2)) := ⟨_, rfl⟩
          rw [← hw4] at HST ⊢
          clear hw4
          have hgx := HST.out.2
          have HO4 := Lib.hid (GOwn.setLk (k := ⟨up, ep, sq, L⟩) j HO.out (HRW.out.sub (List.Sublist.cons_cons _ (List.sublist_cons_self _ _))) hgx HST.out.1)
          have HI4 := Lib.hid ((HRW.out.at_ (inR (.slice a3 lI cap3) I) (by simp)).kept hgx ((HRW.out.at_ (inR (.slice a3 lI cap3) I) (by simp)).apart (s := lrR (.slice (some ⟨gk, 0, none⟩) lK kc1) (rawOf KJ vs)) HO.out.lkO ne_il))
          have HAP := Lib.hid ((HRW.out.at_ (inR (.slice a3 lI cap3) I) (by simp)).apart (s := evR (.slice ea1 lE ec1) EJ) HO.out.evO ne_ie)
          replace HA := Lib.hid (HA.out.grown hgx (by have := HGB1.out; have := HB1.out; simp; omega))
          replace HR := Lib.hid (HR.out.grown hgx (by have := HGB1.out; have := HB1.out; simp; omega))
          replace HX := Lib.hid (HX.out.grown hgx (ne_of_box (lrR_at.2 HO.out.lkO) HX.out ne_lg rfl))
          replace HL := Lib.hid (HL.out.grown hgx HL.out.size (fun z hz => by cases hz; have := HGB1.out; have := HB1.out; omega))
          replace HBW := Lib.hid (Nat.le_trans HBW.out hgx.size)
          have HW1S := Lib.hid (show w1.heap.size ≤ w4.heap.size from Nat.le_trans (Nat.le_trans HK8.out (Nat.le_of_lt HB8.out.lt)) hgx.size)
          clear hgx HST HO HRW HB8
          obtain ⟨K', hK'⟩ : ∃ K', K' = KJ.set j ⟨up, ep, sq, L⟩ := ⟨_, rfl⟩
          obtain ⟨vs', hvs'⟩ : ∃ v, v = vs.set j (.slice a2 lL cap2) := ⟨_, rfl⟩
          rw [← hK', ← hvs'] at HO4
          have HlK2 := Lib.hid (show lK = K'.length by rw [hK', List.length_set, HKJL.out]; exact HlK.out)
          have HlE2 := Lib.hid (show lE = EJ.length by rw [HEJ.out, lateEs_len]; exact HlE.out)
          have HKE := Lib.hid (show lateKs nw K (j + 1) = K' by rw [hK', ← lateKs_step nw K j hjl HLJ.out, HKJ.out, HLL.out]; rfl)
          have HEE := Lib.hid (show lateEs nw K E (j + 1) = backE EJ I by rw [lateEs_step nw K E j hjl HLJ.out, HEJ.out, HII.out]; rfl)
          clear hK' hvs' hmlk
          have hII := Lnk.IOwn.isN (inR_at.1 HI4.out)
          have HIS := Lib.hid hII
          have HO5 := Lib.hid (show GOwn B1 w4 (.slice ea1 EJ.length ec1) (.slice (some ⟨gk, 0, none⟩) K'.length kc1) (.slice fa1 F.length fc1) (.slice ra1 R.length rc1) vs' EJ K' F R by rw [← HlE2.out, ← HlK2.out, ← HlF.out, ← HlR.out]; exact HO4.out)
          have HSP := Lib.hid (slice_apart (u := .slice ea1 EJ.length ec1) (by rw [← HlE2.out]; exact HAP.out))
          clear hII
          go_wp2_with (first | (refine wpList_load_box rfl _ 38 rfl rfl HX.out _ Try.underlying38 sizeGate ?_) | fail)
          rw [HlE2.out, HlK2.out, HlF.out, HlR.out]
          refine (back_any B1 _ de qu wi ti qa bu le pb pc pj pt nw la ea1 ec1 (some ⟨gk, 0, none⟩) kc1 tu fa1 fc1 ra1 rc1 tk ac dr vs' EJ K' F R a3 lI cap3 I HO5.out HIS.out HSP.out (by have := HSM.out.1; have := HG.out.ev.row.hlen; have := HlE.out; have := HlE2.out; omega) (by have := HIL.out; have := HlI.out; omega)).mono ?_
          rintro e w5 ⟨rfl, ho5, hg5⟩
          have hne5 : ∀ z, z < B1 → some z ≠ (Value.slice ea1 EJ.length ec1).ownBlock := fun z hz e => by have := (World.ownsRow.lt HO5.out.evO z e.symm).1; omega
          replace HA := Lib.hid (HA.out.grown hg5 (hne5 _ (by have := HB1.out; omega)))
          replace HR := Lib.hid (HR.out.grown hg5 (hne5 _ (by have := HB1.out; omega)))
          replace HX := Lib.hid (HX.out.grown hg5 (box_ne (evR_at.2 HO5.out.evO) HX.out ne_eg))
          replace HL := Lib.hid (HL.out.grown hg5 HL.out.size (fun z hz => by have := (World.ownsRow.lt HO5.out.evO z hz).1; have := HB1.out; omega))
          replace HBW := Lib.hid (Nat.le_trans HBW.out hg5.size)
          replace HW1S := Lib.hid (Nat.le_trans HW1S.out hg5.size)
          have HO6 := Lib.hid ho5
          clear hg5 hne5 ho5 HO4 HO5
          rw [← HlE2.out, ← HlK2.out, ← HlF.out, ← HlR.out] at HO6 ⊢
          go_wp2_with (first | (refine wpList_store_box rfl _ _ 38 rfl rfl [.int .i64 de, .int .i64 qu, .int .i64 wi, .int .i64 ti, .int .i64 qa, .int .i64 bu, .int .i64 le, .int .i64 pb, .int .i64 pc, .int .i64 pj, .int .i64 pt, .int .i64 nw, .int .i64 la, .slice ea1 lE ec1, .slice (some ⟨gk, 0, none⟩) lK kc1, .int .i64 tu, .slice fa1 lF fc1, .slice ra1 lR rc1, .int .i64 tk, .int .i64 ac, .int .i64 dr] rfl HX.out sizeGate rfl rfl ?_; intro w6 hXb hgV hlV; have HX6 := Lib.hid hXb; have HG6 := Lib.hid hgV; have HL6 := Lib.hid (hlV w.heap.size w (by have := HK3.out; have := HB1.out; omega) HL.out); clear hXb hgV hlV) | fail)
          go_roundw
          case rel => exact ⟨j + 1, vs', by omega, by go_num, Lib.hid (.inr HGB.out), HL6, Lib.hid (HA.out.grown HG6.out (by have := HK3.out; have := HB1.out; simp; omega)), Lib.hid (HR.out.grown HG6.out (by have := HK3.out; have := HB1.out; simp; omega)), HX6, Lib.hid (by rw [HKE.out, HEE.out]; exact HO6.out.offbox HX.out HG6.out), Lib.hid (Nat.le_trans HBW.out HG6.out.size), Lib.hid (Nat.le_trans HW1S.out HG6.out.size)⟩
          case measure => simp [intOf]; omega
    · have hjn : j = K.length := by have := HKL.out; omega
      have HE2 := Lib.hid (show sel (gokB de qu wi ti qa bu le pb pc pj pt nw la en kn tu fn rn tk ac dr E K F R) (lateEs nw K E K.length) E = EJ by
        rcases HJ0.out with h | h
        · have h0 : K = [] := List.length_eq_zero_iff.1 (by omega)
          subst h0
          rw [HEJ.out]
          unfold sel
          split <;> simp [lateEs]
        · rw [h, sel_yes, HEJ.out, hjn])
      have HK2 := Lib.hid (show sel (gokB de qu wi ti qa bu le pb pc pj pt nw la en kn tu fn rn tk ac dr E K F R) (K.map (lateK nw)) K = KJ by
        rcases HJ0.out with h | h
        · have h0 : K = [] := List.length_eq_zero_iff.1 (by omega)
          subst h0
          rw [HKJ.out]
          unfold sel
          split <;> simp [lateKs]
        · rw [h, sel_yes, HKJ.out, hjn, lateKs_all])
      have HlE2 := Lib.hid (show lE = EJ.length by rw [HEJ.out, lateEs_len]; exact HlE.out)
      have HlK2 := Lib.hid (show lK = KJ.length by rw [HKJ.out, lateKs_len]; exact HlK.out)
      clear hjn
      go_wp2_with (first | (refine wpList_load_box rfl _ 38 rfl rfl HX.out _ Try.underlying38 sizeGate ?_) | (refine wpList_store_box rfl _ _ 38 rfl rfl [.int .i64 de, .int .i64 qu, .int .i64 wi, .int .i64 ti, .int .i64 qa, .int .i64 bu, .int .i64 le, .int .i64 pb, .int .i64 pc, .int .i64 pj, .int .i64 pt, .int .i64 nw, .int .i64 la, .slice ea1 lE ec1, .slice ka1 lK kc1, .int .i64 tu, .slice fa1 lF fc1, .slice ra1 lR rc1, .int .i64 tk, .int .i64 ac, .int .i64 dr] rfl HR.out sizeGate rfl rfl ?_; intro V hXb hgV hlV) | fail)
      rw [HE2.out, HK2.out]
      exact bodyPost_ret (v := .agg #[.int .i64 de, .int .i64 qu, .int .i64 wi, .int .i64 ti, .int .i64 qa, .int .i64 bu, .int .i64 le, .int .i64 pb, .int .i64 pc, .int .i64 pj, .int .i64 pt, .int .i64 nw, .int .i64 la, .slice ea1 lE ec1, .slice ka1 lK kc1, .int .i64 tu, .slice fa1 lF fc1, .slice ra1 lR rc1, .int .i64 tk, .int .i64 ac, .int .i64 dr]) (results_box _ Try.results23 rfl hXb _ Try.underlying38 sizeGate) rfl ⟨⟨ea1, ec1, ka1, kc1, fa1, fc1, ra1, rc1, vs, by rw [← HlE2.out, ← HlK2.out, ← HlF.out, ← HlR.out], by rw [← HlE2.out, ← HlK2.out, ← HlF.out, ← HlR.out]; exact (HO.out.low hgV (by have := HB1.out; omega)).base (by have := HB1.out; omega)⟩, hlV w.heap.size w (by omega) HL.out⟩

end Go.Proofs.Ytlcllbdalabciaa.Gat
