/-
  The program's Connect and Disconnect.
-/
import Derived.Test.YtkndpkingmemoaaDoorMgm
import Derived.Shelf.Abstract
namespace Go.Proofs.YtkndpkingmemoaaDoor.Gat
open Go.RowKit
open Lnk (bOne bAfter IOwn IIs YOwn YIs below_keep below_drew' bcell low_after low_alloc grown_of_below joU joE joS joL joI leU leL leI)
set_option linter.unusedVariables false
set_option linter.unusedSimpArgs false

theorem bk_twice (s : Int) : Evt.bk (Evt.bk s) = Evt.bk s := by unfold Evt.bk; split <;> simp_all
theorem bkE_twice (e : Ev) : bkE (bkE e) = bkE e := by unfold bkE; simp [bk_twice]
def bk1 (id : Int) (e : Ev) : Ev := if e.i = id then bkE e else e
theorem bk1_id (id : Int) (e : Ev) : (bk1 id e).i = e.i := by unfold bk1; split <;> rfl
theorem inj_map {E : List Ev} (h : Inj E) (f : Ev → Ev) (hf : ∀ e, (f e).i = e.i) : Inj (E.map f) := by
  intro a b ha hb e
  rw [List.length_map] at ha hb
  rw [List.getElem_map, List.getElem_map, hf, hf] at e
  exact h a b ha hb e
theorem back1_eq {E : List Ev} (h : Inj E) (id : Int) : back1 E id = E.map (bk1 id) := by
  rcases at_range id E with ⟨h1, h2⟩ | ⟨k, hk, h1, h2⟩
  · rw [h2]
    have hno : E.any (isI id) = false := by
      cases hq : E.any (isI id) with
      | false => rfl
      | true => unfold atI at h1; rw [if_pos hq] at h1; omega
    symm
    have : E.map (bk1 id) = E.map (fun e => e) := List.map_congr_left fun e he => by
      unfold bk1
      rw [if_neg]
      intro hi
      have := List.any_eq_false.1 hno e he
      simp [isI, hi] at this
    rw [this, List.map_id']
  · rw [h2]
    have hi : E[k].i = id := by
      unfold atI at h1
      by_cases hq : E.any (isI id) = true
      · rw [if_pos hq] at h1
        have e1 : E.findIdx (isI id) = k := by omega
        have e2 : E.findIdx (isI id) < E.length := by omega
        have := List.findIdx_getElem (w := e2)
        simp only [e1] at this
        simpa [isI] using this
      · rw [if_neg hq] at h1; omega
    apply List.ext_getElem
    · simp
    · intro j hj hj'
      rw [List.length_set] at hj
      rw [List.getElem_set, List.getElem_map]
      by_cases e : k = j
      · subst e
        rw [if_pos rfl]
        unfold bk1
        rw [if_pos hi]
      · rw [if_neg e]
        unfold bk1
        rw [if_neg]
        intro hc
        exact e (h k j hk hj (by rw [hi, hc]))
theorem backE_eq : ∀ (ids : List Int) {E : List Ev}, Inj E → backE E ids = mapB ids E
  | [], E, _ => by
    unfold mapB
    have : E.map (bkI []) = E.map (fun e => e) := List.map_congr_left fun e he => by unfold bkI; rw [hasI_no (by simp)]; rfl
    rw [this, List.map_id']
    rfl
  | x :: ids, E, h => by
    show backE (back1 E x) ids = _
    rw [back1_eq h, backE_eq ids (inj_map h _ (bk1_id x))]
    unfold mapB
    rw [List.map_map]
    refine List.map_congr_left fun e he => ?_
    show bkI ids (bk1 x e) = bkI (x :: ids) e
    unfold bk1
    by_cases hx : e.i = x
    · rw [if_pos hx]
      have e2 : bkI (x :: ids) e = bkE e := by unfold bkI; rw [hasI_yes (by rw [hx]; simp)]; rfl
      rw [e2]
      unfold bkI
      split
      · exact bkE_twice e
      · rfl
    · rw [if_neg hx]
      unfold bkI
      have e3 : hasI (x :: ids) e.i = hasI ids e.i := by unfold hasI; simp [hx]
      rw [e3]
theorem relE_eq {E : List Ev} (h : Inj E) (I : Lk → List Int) (ok : Bool) (K : List Lk) (d : Int) : relE I ok K E d = conE I ok K E d := by
  unfold relE conE
  split
  · exact (backE_eq _ h).symm
  · rfl
theorem conE_len (I : Lk → List Int) (ok : Bool) (K : List Lk) (E : List Ev) (d : Int) : (conE I ok K E d).length = E.length := by
  unfold conE
  split
  · exact backE_len _ _
  · rfl
theorem conK_len (J : Lk → Lk) (ok : Bool) (K : List Lk) (d : Int) : (conK J ok K d).length = K.length := by
  unfold conK
  split
  · exact List.length_set
  · rfl
theorem sizeKeep : (Tryd.prog.info? 49).map (·.size) = some 21 := by kernel_rfl

theorem gok_inj {de qu wi ti qa bu le pb pc pj pt nw la : Int} {en kn : Nat} {tu : Int} {fn rn : Nat} {tk ac dr : Int} {E : List Ev} {K : List Lk} {F R : List Int} (h : gokB de qu wi ti qa bu le pb pc pj pt nw la en kn tu fn rn tk ac dr E K F R = true) : Inj E := by
  have h1 := (gokB_true h).2.2.2.2.1.2
  exact inj_of fun k hk => (h1 k hk).1.2.1
theorem gok_kd {de qu wi ti qa bu le pb pc pj pt nw la : Int} {en kn : Nat} {tu : Int} {fn rn : Nat} {tk ac dr : Int} {E : List Ev} {K : List Lk} {F R : List Int} (h : gokB de qu wi ti qa bu le pb pc pj pt nw la en kn tu fn rn tk ac dr E K F R = true) : (kn : Int) = de ∧ de ≤ 1000 := by
  have h1 := gokB_true h
  have h2 := h1.1
  unfold CfgOk at h2
  exact ⟨h1.2.2.2.1.1, by omega⟩

set_option maxRecDepth 100000 in
set_option maxHeartbeats 8000000 in
theorem implConn_any (w : World) (de qu wi ti qa bu le pb pc pj pt nw la : Int) (ea : Option Addr) (en ec : Nat) (ka : Option Addr) (kn kc : Nat) (tu : Int) (fa : Option Addr) (fn fc : Nat) (ra : Option Addr) (rn rc : Nat) (tk ac dr : Int) (E : List Ev) (K : List Lk) (F R : List Int) (d : Int) (hE : ∀ e ∈ E, (Lit.int .i64 e.i).wf = true) (hR : ∀ x ∈ R, (Lit.int .i64 x).wf = true) (h : GIs w.heap.size w ea en ka kn fa fn ra rn E K F R) (hs : Small en kn fn rn K) :
    Calls Tryd.prog 14 #[.agg #[.int .i64 de, .int .i64 qu, .int .i64 wi, .int .i64 ti, .int .i64 qa, .int .i64 bu, .int .i64 le, .int .i64 pb, .int .i64 pc, .int .i64 pj, .int .i64 pt, .int .i64 nw, .int .i64 la, .slice ea en ec, .slice ka kn kc, .int .i64 tu, .slice fa fn fc, .slice ra rn rc, .int .i64 tk, .int .i64 ac, .int .i64 dr], .int .i64 d] w fun e w' => GEnd w w' de qu wi ti qa bu le pb pc pj pt nw la tu tk ac dr (conE joinI (gokB de qu wi ti qa bu le pb pc pj pt nw la en kn tu fn rn tk ac dr E K F R && inB 1 de d) K E d) (conK joinK (gokB de qu wi ti qa bu le pb pc pj pt nw la en kn tu fn rn tk ac dr E K F R && inB 1 de d) K d) F R e := by
  obtain rfl : E.length = en := h.ev.row.hlen
  obtain rfl : K.length = kn := h.lk.hlen
  obtain rfl : F.length = fn := h.lf.hlen
  obtain rfl : R.length = rn := h.lt.hlen
  obtain ⟨W0, hW0⟩ : ∃ W, W = (w.alloc (.cells #[.int .i64 de, .int .i64 qu, .int .i64 wi, .int .i64 ti, .int .i64 qa, .int .i64 bu, .int .i64 le, .int .i64 pb, .int .i64 pc, .int .i64 pj, .int .i64 pt, .int .i64 nw, .int .i64 la, .slice ea E.length ec, .slice ka K.length kc, .int .i64 tu, .slice fa F.length fc, .slice ra R.length rc, .int .i64 tk, .int .i64 ac, .int .i64 dr] 33)).alloc (.cells #[.int .i64 0, .int .i64 0, .int .i64 0, .int .i64 0, .int .i64 0, .int .i64 0, .int .i64 0, .int .i64 0, .int .i64 0, .int .i64 0, .int .i64 0, .int .i64 0, .int .i64 0, .slice none 0 0, .slice none 0 0, .int .i64 0, .slice none 0 0, .slice none 0 0, .int .i64 0, .int .i64 0, .int .i64 0] 33) := ⟨_, rfl⟩
  have hb01 := bOne w (.cells #[.int .i64 de, .int .i64 qu, .int .i64 wi, .int .i64 ti, .int .i64 qa, .int .i64 bu, .int .i64 le, .int .i64 pb, .int .i64 pc, .int .i64 pj, .int .i64 pt, .int .i64 nw, .int .i64 la, .slice ea E.length ec, .slice ka K.length kc, .int .i64 tu, .slice fa F.length fc, .slice ra R.length rc, .int .i64 tk, .int .i64 ac, .int .i64 dr] 33)
  have hb02 := bOne (w.alloc (.cells #[.int .i64 de, .int .i64 qu, .int .i64 wi, .int .i64 ti, .int .i64 qa, .int .i64 bu, .int .i64 le, .int .i64 pb, .int .i64 pc, .int .i64 pj, .int .i64 pt, .int .i64 nw, .int .i64 la, .slice ea E.length ec, .slice ka K.length kc, .int .i64 tu, .slice fa F.length fc, .slice ra R.length rc, .int .i64 tk, .int .i64 ac, .int .i64 dr] 33)) (.cells #[.int .i64 0, .int .i64 0, .int .i64 0, .int .i64 0, .int .i64 0, .int .i64 0, .int .i64 0, .int .i64 0, .int .i64 0, .int .i64 0, .int .i64 0, .int .i64 0, .int .i64 0, .slice none 0 0, .slice none 0 0, .int .i64 0, .slice none 0 0, .slice none 0 0, .int .i64 0, .int .i64 0, .int .i64 0] 33)
  have HA : Hid (Box W0 w.heap.size 33 [.int .i64 de, .int .i64 qu, .int .i64 wi, .int .i64 ti, .int .i64 qa, .int .i64 bu, .int .i64 le, .int .i64 pb, .int .i64 pc, .int .i64 pj, .int .i64 pt, .int .i64 nw, .int .i64 la, .slice ea E.length ec, .slice ka K.length kc, .int .i64 tu, .slice fa F.length fc, .slice ra R.length rc, .int .i64 tk, .int .i64 ac, .int .i64 dr]) := Lib.hid (by rw [hW0]; exact (Box.new w [.int .i64 de, .int .i64 qu, .int .i64 wi, .int .i64 ti, .int .i64 qa, .int .i64 bu, .int .i64 le, .int .i64 pb, .int .i64 pc, .int .i64 pj, .int .i64 pt, .int .i64 nw, .int .i64 la, .slice ea E.length ec, .slice ka K.length kc, .int .i64 tu, .slice fa F.length fc, .slice ra R.length rc, .int .i64 tk, .int .i64 ac, .int .i64 dr] 33).below hb02)
  have HR : Hid (Box W0 (w.heap.size + 1) 33 [.int .i64 0, .int .i64 0, .int .i64 0, .int .i64 0, .int .i64 0, .int .i64 0, .int .i64 0, .int .i64 0, .int .i64 0, .int .i64 0, .int .i64 0, .int .i64 0, .int .i64 0, .slice none 0 0, .slice none 0 0, .int .i64 0, .slice none 0 0, .slice none 0 0, .int .i64 0, .int .i64 0, .int .i64 0]) := Lib.hid (by
    rw [hW0]
    have := Box.new (w.alloc (.cells #[.int .i64 de, .int .i64 qu, .int .i64 wi, .int .i64 ti, .int .i64 qa, .int .i64 bu, .int .i64 le, .int .i64 pb, .int .i64 pc, .int .i64 pj, .int .i64 pt, .int .i64 nw, .int .i64 la, .slice ea E.length ec, .slice ka K.length kc, .int .i64 tu, .slice fa F.length fc, .slice ra R.length rc, .int .i64 tk, .int .i64 ac, .int .i64 dr] 33)) [.int .i64 0, .int .i64 0, .int .i64 0, .int .i64 0, .int .i64 0, .int .i64 0, .int .i64 0, .int .i64 0, .int .i64 0, .int .i64 0, .int .i64 0, .int .i64 0, .int .i64 0, .slice none 0 0, .slice none 0 0, .int .i64 0, .slice none 0 0, .slice none 0 0, .int .i64 0, .int .i64 0, .int .i64 0] 33
    simpa using this)
  have HL : Hid (Below w.heap.size w W0) := Lib.hid (by rw [hW0]; exact hb01.trans (hb02.mono (by simp)))
  have HSZ := Lib.hid (show w.heap.size + 2 ≤ W0.heap.size by rw [hW0]; simp)
  have HWE := Lib.hid hW0
  have HG := Lib.hid h
  have HSM := Lib.hid hs
  have HE := Lib.hid hE
  have HRW := Lib.hid hR
  obtain ⟨gk, hgk⟩ : ∃ x, x = gokB de qu wi ti qa bu le pb pc pj pt nw la E.length K.length tu F.length R.length tk ac dr E K F R := ⟨_, rfl⟩
  rw [← hgk]
  have HGK := Lib.hid hgk
  clear hW0 hb01 hb02 h hs hE hR hgk
  go_enter Tryd.func14, Tryd.ntmps14
  go_upto_region 1 with fail
  rw [← HWE.out]
  clear HWE
  obtain ⟨B, hB⟩ : ∃ B, B = W0.heap.size := ⟨_, rfl⟩
  have HB1 := Lib.hid (show w.heap.size + 2 ≤ B by rw [hB]; exact HSZ.out)
  go_wp2_with (first | (refine wpList_load_box rfl _ 33 rfl rfl HA.out _ Tryd.underlying33 sizeGate ?_) | fail)
  refine (copyGate_any _ de qu wi ti qa bu le pb pc pj pt nw la ea E.length ec ka K.length kc tu fa F.length fc ra R.length rc tk ac dr E K F R (HG.out.here HL.out) HSM.out).mono ?_
  rintro e w1 ⟨⟨ea1, ec1, ka1, kc1, fa1, fc1, ra1, rc1, vs, rfl, ho⟩, hb⟩
  rw [← hB] at ho
  have HO := Lib.hid ho
  have HBW := Lib.hid (show B ≤ w1.heap.size by rw [hB]; exact hb.size)
  replace HA := Lib.hid (HA.out.below hb)
  replace HR := Lib.hid (HR.out.below hb)
  replace HL := Lib.hid (low_after HL.out hb)
  clear hb ho hB HSZ
  obtain ⟨kb, hkb⟩ : ∃ k, k = w1.heap.size := ⟨_, rfl⟩
  go_upto_region 2 with (first | (refine wpList_store_box rfl _ _ 49 rfl rfl [.int .i64 de, .int .i64 qu, .int .i64 wi, .int .i64 ti, .int .i64 qa, .int .i64 bu, .int .i64 le, .int .i64 pb, .int .i64 pc, .int .i64 pj, .int .i64 pt, .int .i64 nw, .int .i64 la, .slice ea1 E.length ec1, .slice ka1 K.length kc1, .int .i64 tu, .slice fa1 F.length fc1, .slice ra1 R.length rc1, .int .i64 tk, .int .i64 ac, .int .i64 dr] rfl (Box.new _ [.int .i64 0, .int .i64 0, .int .i64 0, .int .i64 0, .int .i64 0, .int .i64 0, .int .i64 0, .int .i64 0, .int .i64 0, .int .i64 0, .int .i64 0, .int .i64 0, .int .i64 0, .slice none 0 0, .slice none 0 0, .int .i64 0, .slice none 0 0, .slice none 0 0, .int .i64 0, .int .i64 0, .int .i64 0] 49) sizeKeep rfl rfl ?_; intro V0 hXb hgV hlV; have HX := Lib.hid hXb; have HBV := Lib.hid (hlV w1.heap.size w1 (Nat.le_refl _) (bOne w1 _)); clear hXb hgV hlV) | fail)
  simp only [Act.put]
  rw [← hkb] at HX ⊢
  clear hkb
  replace HA := Lib.hid (HA.out.below HBV.out)
  replace HR := Lib.hid (HR.out.below HBV.out)
  replace HL := Lib.hid (low_after HL.out HBV.out)
  replace HO := Lib.hid (HO.out.below HBV.out)
  replace HBW := Lib.hid (Nat.le_trans HBW.out HBV.out.size)
  clear HBV
  go_wp2_with (first | (refine wpList_load_box rfl _ 33 rfl rfl HA.out _ Tryd.underlying33 sizeGate ?_) | fail)
  refine (implGokB_any _ de qu wi ti qa bu le pb pc pj pt nw la ea E.length ec ka K.length kc tu fa F.length fc ra R.length rc tk ac dr E K F R HE.out HRW.out HSM.out.1 HSM.out.2.2.2.2 (HG.out.here HL.out)).mono ?_
  rintro e w2 ⟨rfl, hb⟩
  rw [← HGK.out]
  replace HA := Lib.hid (HA.out.below hb)
  replace HR := Lib.hid (HR.out.below hb)
  replace HX := Lib.hid (HX.out.below hb)
  replace HL := Lib.hid (low_after HL.out hb)
  replace HO := Lib.hid (HO.out.below hb)
  replace HBW := Lib.hid (Nat.le_trans HBW.out hb.size)
  clear hb
  cases gk with
  | false =>
    go_wp2_with (first | (refine wpList_load_box rfl _ 33 rfl rfl HX.out _ Tryd.underlying33 sizeGate ?_) | (refine wpList_store_box rfl _ _ 33 rfl rfl [.int .i64 de, .int .i64 qu, .int .i64 wi, .int .i64 ti, .int .i64 qa, .int .i64 bu, .int .i64 le, .int .i64 pb, .int .i64 pc, .int .i64 pj, .int .i64 pt, .int .i64 nw, .int .i64 la, .slice ea1 E.length ec1, .slice ka1 K.length kc1, .int .i64 tu, .slice fa1 F.length fc1, .slice ra1 R.length rc1, .int .i64 tk, .int .i64 ac, .int .i64 dr] rfl HR.out sizeGate rfl rfl ?_; intro V hXb hgV hlV) | fail)
    exact bodyPost_ret (v := .agg #[.int .i64 de, .int .i64 qu, .int .i64 wi, .int .i64 ti, .int .i64 qa, .int .i64 bu, .int .i64 le, .int .i64 pb, .int .i64 pc, .int .i64 pj, .int .i64 pt, .int .i64 nw, .int .i64 la, .slice ea1 E.length ec1, .slice ka1 K.length kc1, .int .i64 tu, .slice fa1 F.length fc1, .slice ra1 R.length rc1, .int .i64 tk, .int .i64 ac, .int .i64 dr]) (results_box _ Tryd.results14 rfl hXb _ Tryd.underlying33 sizeGate) rfl ⟨⟨ea1, ec1, ka1, kc1, fa1, fc1, ra1, rc1, vs, rfl, (HO.out.low hgV (by have := HB1.out; omega)).base (by have := HB1.out; omega)⟩, hlV w.heap.size w (by omega) HL.out⟩
  | true =>
    have hkd := gok_kd HGK.out.symm
    have HKD := Lib.hid hkd
    have HIJ := Lib.hid (gok_inj HGK.out.symm)
    clear hkd
    go_wp2_with fail
    refine (relink0_any 35 joinK joinI w2 B kb 49 [] de qu wi ti qa bu le pb pc pj pt nw la ea1 ec1 ka1 kc1 tu fa1 fc1 ra1 rc1 tk ac dr vs E K F R d HX.out rfl HO.out HBW.out HSM.out HKD.out.1 HKD.out.2 (enters_of Tryd.func35 (by kernel_rfl) rfl) joinI_len (fun w1 k fa0 fl fc0 hb hy hl => Lnk.join_any _ fa0 fl fc0 k.up k.ep k.sq k.l hy (by have := hy.hlen; omega))).mono ?_
    rintro e w3 ⟨rfl, hx, ⟨vs', ho⟩, hl, hk⟩
    rw [relE_eq HIJ.out] at ho
    replace HA := Lib.hid (HA.out.low hl (by have := HB1.out; omega))
    replace HR := Lib.hid (HR.out.low hl (by have := HB1.out; omega))
    replace HL := Lib.hid (HL.out.trans (hl.mono (by have := HB1.out; omega)))
    replace HX := Lib.hid hx
    replace HO := Lib.hid ho
    clear hx ho hl hk
    go_wp2_with (first | (refine wpList_load_box rfl _ 33 rfl rfl HX.out _ Tryd.underlying33 sizeGate ?_) | (refine wpList_store_box rfl _ _ 33 rfl rfl [.int .i64 de, .int .i64 qu, .int .i64 wi, .int .i64 ti, .int .i64 qa, .int .i64 bu, .int .i64 le, .int .i64 pb, .int .i64 pc, .int .i64 pj, .int .i64 pt, .int .i64 nw, .int .i64 la, .slice ea1 E.length ec1, .slice ka1 K.length kc1, .int .i64 tu, .slice fa1 F.length fc1, .slice ra1 R.length rc1, .int .i64 tk, .int .i64 ac, .int .i64 dr] rfl HR.out sizeGate rfl rfl ?_; intro V hXb hgV hlV) | fail)
    exact bodyPost_ret (v := .agg #[.int .i64 de, .int .i64 qu, .int .i64 wi, .int .i64 ti, .int .i64 qa, .int .i64 bu, .int .i64 le, .int .i64 pb, .int .i64 pc, .int .i64 pj, .int .i64 pt, .int .i64 nw, .int .i64 la, .slice ea1 E.length ec1, .slice ka1 K.length kc1, .int .i64 tu, .slice fa1 F.length fc1, .slice ra1 R.length rc1, .int .i64 tk, .int .i64 ac, .int .i64 dr]) (results_box _ Tryd.results14 rfl hXb _ Tryd.underlying33 sizeGate) rfl ⟨⟨ea1, ec1, ka1, kc1, fa1, fc1, ra1, rc1, vs', by rw [conE_len, conK_len], by rw [conE_len, conK_len]; exact (HO.out.low hgV (by have := HB1.out; omega)).base (by have := HB1.out; omega)⟩, hlV w.heap.size w (by omega) HL.out⟩

set_option maxRecDepth 100000 in
set_option maxHeartbeats 8000000 in
theorem implDisc_any (w : World) (de qu wi ti qa bu le pb pc pj pt nw la : Int) (ea : Option Addr) (en ec : Nat) (ka : Option Addr) (kn kc : Nat) (tu : Int) (fa : Option Addr) (fn fc : Nat) (ra : Option Addr) (rn rc : Nat) (tk ac dr : Int) (E : List Ev) (K : List Lk) (F R : List Int) (d : Int) (hE : ∀ e ∈ E, (Lit.int .i64 e.i).wf = true) (hR : ∀ x ∈ R, (Lit.int .i64 x).wf = true) (h : GIs w.heap.size w ea en ka kn fa fn ra rn E K F R) (hs : Small en kn fn rn K) :
    Calls Tryd.prog 15 #[.agg #[.int .i64 de, .int .i64 qu, .int .i64 wi, .int .i64 ti, .int .i64 qa, .int .i64 bu, .int .i64 le, .int .i64 pb, .int .i64 pc, .int .i64 pj, .int .i64 pt, .int .i64 nw, .int .i64 la, .slice ea en ec, .slice ka kn kc, .int .i64 tu, .slice fa fn fc, .slice ra rn rc, .int .i64 tk, .int .i64 ac, .int .i64 dr], .int .i64 d] w fun e w' => GEnd w w' de qu wi ti qa bu le pb pc pj pt nw la tu tk ac dr (conE leaveI (gokB de qu wi ti qa bu le pb pc pj pt nw la en kn tu fn rn tk ac dr E K F R && inB 1 de d) K E d) (conK leaveK (gokB de qu wi ti qa bu le pb pc pj pt nw la en kn tu fn rn tk ac dr E K F R && inB 1 de d) K d) F R e := by
  obtain rfl : E.length = en := h.ev.row.hlen
  obtain rfl : K.length = kn := h.lk.hlen
  obtain rfl : F.length = fn := h.lf.hlen
  obtain rfl : R.length = rn := h.lt.hlen
  obtain ⟨W0, hW0⟩ : ∃ W, W = (w.alloc (.cells #[.int .i64 de, .int .i64 qu, .int .i64 wi, .int .i64 ti, .int .i64 qa, .int .i64 bu, .int .i64 le, .int .i64 pb, .int .i64 pc, .int .i64 pj, .int .i64 pt, .int .i64 nw, .int .i64 la, .slice ea E.length ec, .slice ka K.length kc, .int .i64 tu, .slice fa F.length fc, .slice ra R.length rc, .int .i64 tk, .int .i64 ac, .int .i64 dr] 33)).alloc (.cells #[.int .i64 0, .int .i64 0, .int .i64 0, .int .i64 0, .int .i64 0, .int .i64 0, .int .i64 0, .int .i64 0, .int .i64 0, .int .i64 0, .int .i64 0, .int .i64 0, .int .i64 0, .slice none 0 0, .slice none 0 0, .int .i64 0, .slice none 0 0, .slice none 0 0, .int .i64 0, .int .i64 0, .int .i64 0] 33) := ⟨_, rfl⟩
  have hb01 := bOne w (.cells #[.int .i64 de, .int .i64 qu, .int .i64 wi, .int .i64 ti, .int .i64 qa, .int .i64 bu, .int .i64 le, .int .i64 pb, .int .i64 pc, .int .i64 pj, .int .i64 pt, .int .i64 nw, .int .i64 la, .slice ea E.length ec, .slice ka K.length kc, .int .i64 tu, .slice fa F.length fc, .slice ra R.length rc, .int .i64 tk, .int .i64 ac, .int .i64 dr] 33)
  have hb02 := bOne (w.alloc (.cells #[.int .i64 de, .int .i64 qu, .int .i64 wi, .int .i64 ti, .int .i64 qa, .int .i64 bu, .int .i64 le, .int .i64 pb, .int .i64 pc, .int .i64 pj, .int .i64 pt, .int .i64 nw, .int .i64 la, .slice ea E.length ec, .slice ka K.length kc, .int .i64 tu, .slice fa F.length fc, .slice ra R.length rc, .int .i64 tk, .int .i64 ac, .int .i64 dr] 33)) (.cells #[.int .i64 0, .int .i64 0, .int .i64 0, .int .i64 0, .int .i64 0, .int .i64 0, .int .i64 0, .int .i64 0, .int .i64 0, .int .i64 0, .int .i64 0, .int .i64 0, .int .i64 0, .slice none 0 0, .slice none 0 0, .int .i64 0, .slice none 0 0, .slice none 0 0, .int .i64 0, .int .i64 0, .int .i64 0] 33)
  have HA : Hid (Box W0 w.heap.size 33 [.int .i64 de, .int .i64 qu, .int .i64 wi, .int .i64 ti, .int .i64 qa, .int .i64 bu, .int .i64 le, .int .i64 pb, .int .i64 pc, .int .i64 pj, .int .i64 pt, .int .i64 nw, .int .i64 la, .slice ea E.length ec, .slice ka K.length kc, .int .i64 tu, .slice fa F.length fc, .slice ra R.length rc, .int .i64 tk, .int .i64 ac, .int .i64 dr]) := Lib.hid (by rw [hW0]; exact (Box.new w [.int .i64 de, .int .i64 qu, .int .i64 wi, .int .i64 ti, .int .i64 qa, .int .i64 bu, .int .i64 le, .int .i64 pb, .int .i64 pc, .int .i64 pj, .int .i64 pt, .int .i64 nw, .int .i64 la, .slice ea E.length ec, .slice ka K.length kc, .int .i64 tu, .slice fa F.length fc, .slice ra R.length rc, .int .i64 tk, .int .i64 ac, .int .i64 dr] 33).below hb02)
  have HR : Hid (Box W0 (w.heap.size + 1) 33 [.int .i64 0, .int .i64 0, .int .i64 0, .int .i64 0, .int .i64 0, .int .i64 0, .int .i64 0, .int .i64 0, .int .i64 0, .int .i64 0, .int .i64 0, .int .i64 0, .int .i64 0, .slice none 0 0, .slice none 0 0, .int .i64 0, .slice none 0 0, .slice none 0 0, .int .i64 0, .int .i64 0, .int .i64 0]) := Lib.hid (by
    rw [hW0]
    have := Box.new (w.alloc (.cells #[.int .i64 de, .int .i64 qu, .int .i64 wi, .int .i64 ti, .int .i64 qa, .int .i64 bu, .int .i64 le, .int .i64 pb, .int .i64 pc, .int .i64 pj, .int .i64 pt, .int .i64 nw, .int .i64 la, .slice ea E.length ec, .slice ka K.length kc, .int .i64 tu, .slice fa F.length fc, .slice ra R.length rc, .int .i64 tk, .int .i64 ac, .int .i64 dr] 33)) [.int .i64 0, .int .i64 0, .int .i64 0, .int .i64 0, .int .i64 0, .int .i64 0, .int .i64 0, .int .i64 0, .int .i64 0, .int .i64 0, .int .i64 0, .int .i64 0, .int .i64 0, .slice none 0 0, .slice none 0 0, .int .i64 0, .slice none 0 0, .slice none 0 0, .int .i64 0, .int .i64 0, .int .i64 0] 33
    simpa using this)
  have HL : Hid (Below w.heap.size w W0) := Lib.hid (by rw [hW0]; exact hb01.trans (hb02.mono (by simp)))
  have HSZ := Lib.hid (show w.heap.size + 2 ≤ W0.heap.size by rw [hW0]; simp)
  have HWE := Lib.hid hW0
  have HG := Lib.hid h
  have HSM := Lib.hid hs
  have HE := Lib.hid hE
  have HRW := Lib.hid hR
  obtain ⟨gk, hgk⟩ : ∃ x, x = gokB de qu wi ti qa bu le pb pc pj pt nw la E.length K.length tu F.length R.length tk ac dr E K F R := ⟨_, rfl⟩
  rw [← hgk]
  have HGK := Lib.hid hgk
  clear hW0 hb01 hb02 h hs hE hR hgk
  go_enter Tryd.func15, Tryd.ntmps15
  go_upto_region 1 with fail
  rw [← HWE.out]
  clear HWE
  obtain ⟨B, hB⟩ : ∃ B, B = W0.heap.size := ⟨_, rfl⟩
  have HB1 := Lib.hid (show w.heap.size + 2 ≤ B by rw [hB]; exact HSZ.out)
  go_wp2_with (first | (refine wpList_load_box rfl _ 33 rfl rfl HA.out _ Tryd.underlying33 sizeGate ?_) | fail)
  refine (copyGate_any _ de qu wi ti qa bu le pb pc pj pt nw la ea E.length ec ka K.length kc tu fa F.length fc ra R.length rc tk ac dr E K F R (HG.out.here HL.out) HSM.out).mono ?_
  rintro e w1 ⟨⟨ea1, ec1, ka1, kc1, fa1, fc1, ra1, rc1, vs, rfl, ho⟩, hb⟩
  rw [← hB] at ho
  have HO := Lib.hid ho
  have HBW := Lib.hid (show B ≤ w1.heap.size by rw [hB]; exact hb.size)
  replace HA := Lib.hid (HA.out.below hb)
  replace HR := Lib.hid (HR.out.below hb)
  replace HL := Lib.hid (low_after HL.out hb)
  clear hb ho hB HSZ
  obtain ⟨kb, hkb⟩ : ∃ k, k = w1.heap.size := ⟨_, rfl⟩
  go_upto_region 2 with (first | (refine wpList_store_box rfl _ _ 49 rfl rfl [.int .i64 de, .int .i64 qu, .int .i64 wi, .int .i64 ti, .int .i64 qa, .int .i64 bu, .int .i64 le, .int .i64 pb, .int .i64 pc, .int .i64 pj, .int .i64 pt, .int .i64 nw, .int .i64 la, .slice ea1 E.length ec1, .slice ka1 K.length kc1, .int .i64 tu, .slice fa1 F.length fc1, .slice ra1 R.length rc1, .int .i64 tk, .int .i64 ac, .int .i64 dr] rfl (Box.new _ [.int .i64 0, .int .i64 0, .int .i64 0, .int .i64 0, .int .i64 0, .int .i64 0, .int .i64 0, .int .i64 0, .int .i64 0, .int .i64 0, .int .i64 0, .int .i64 0, .int .i64 0, .slice none 0 0, .slice none 0 0, .int .i64 0, .slice none 0 0, .slice none 0 0, .int .i64 0, .int .i64 0, .int .i64 0] 49) sizeKeep rfl rfl ?_; intro V0 hXb hgV hlV; have HX := Lib.hid hXb; have HBV := Lib.hid (hlV w1.heap.size w1 (Nat.le_refl _) (bOne w1 _)); clear hXb hgV hlV) | fail)
  simp only [Act.put]
  rw [← hkb] at HX ⊢
  clear hkb
  replace HA := Lib.hid (HA.out.below HBV.out)
  replace HR := Lib.hid (HR.out.below HBV.out)
  replace HL := Lib.hid (low_after HL.out HBV.out)
  replace HO := Lib.hid (HO.out.below HBV.out)
  replace HBW := Lib.hid (Nat.le_trans HBW.out HBV.out.size)
  clear HBV
  go_wp2_with (first | (refine wpList_load_box rfl _ 33 rfl rfl HA.out _ Tryd.underlying33 sizeGate ?_) | fail)
  refine (implGokB_any _ de qu wi ti qa bu le pb pc pj pt nw la ea E.length ec ka K.length kc tu fa F.length fc ra R.length rc tk ac dr E K F R HE.out HRW.out HSM.out.1 HSM.out.2.2.2.2 (HG.out.here HL.out)).mono ?_
  rintro e w2 ⟨rfl, hb⟩
  rw [← HGK.out]
  replace HA := Lib.hid (HA.out.below hb)
  replace HR := Lib.hid (HR.out.below hb)
  replace HX := Lib.hid (HX.out.below hb)
  replace HL := Lib.hid (low_after HL.out hb)
  replace HO := Lib.hid (HO.out.below hb)
  replace HBW := Lib.hid (Nat.le_trans HBW.out hb.size)
  clear hb
  cases gk with
  | false =>
    go_wp2_with (first | (refine wpList_load_box rfl _ 33 rfl rfl HX.out _ Tryd.underlying33 sizeGate ?_) | (refine wpList_store_box rfl _ _ 33 rfl rfl [.int .i64 de, .int .i64 qu, .int .i64 wi, .int .i64 ti, .int .i64 qa, .int .i64 bu, .int .i64 le, .int .i64 pb, .int .i64 pc, .int .i64 pj, .int .i64 pt, .int .i64 nw, .int .i64 la, .slice ea1 E.length ec1, .slice ka1 K.length kc1, .int .i64 tu, .slice fa1 F.length fc1, .slice ra1 R.length rc1, .int .i64 tk, .int .i64 ac, .int .i64 dr] rfl HR.out sizeGate rfl rfl ?_; intro V hXb hgV hlV) | fail)
    exact bodyPost_ret (v := .agg #[.int .i64 de, .int .i64 qu, .int .i64 wi, .int .i64 ti, .int .i64 qa, .int .i64 bu, .int .i64 le, .int .i64 pb, .int .i64 pc, .int .i64 pj, .int .i64 pt, .int .i64 nw, .int .i64 la, .slice ea1 E.length ec1, .slice ka1 K.length kc1, .int .i64 tu, .slice fa1 F.length fc1, .slice ra1 R.length rc1, .int .i64 tk, .int .i64 ac, .int .i64 dr]) (results_box _ Tryd.results15 rfl hXb _ Tryd.underlying33 sizeGate) rfl ⟨⟨ea1, ec1, ka1, kc1, fa1, fc1, ra1, rc1, vs, rfl, (HO.out.low hgV (by have := HB1.out; omega)).base (by have := HB1.out; omega)⟩, hlV w.heap.size w (by omega) HL.out⟩
  | true =>
    have hkd := gok_kd HGK.out.symm
    have HKD := Lib.hid hkd
    have HIJ := Lib.hid (gok_inj HGK.out.symm)
    clear hkd
    go_wp2_with fail
    refine (relink0_any 36 leaveK leaveI w2 B kb 49 [] de qu wi ti qa bu le pb pc pj pt nw la ea1 ec1 ka1 kc1 tu fa1 fc1 ra1 rc1 tk ac dr vs E K F R d HX.out rfl HO.out HBW.out HSM.out HKD.out.1 HKD.out.2 (enters_of Tryd.func36 (by kernel_rfl) rfl) leaveI_len (fun w1 k fa0 fl fc0 hb hy hl => Lnk.leave_any _ fa0 fl fc0 k.up k.ep k.sq k.l hy (by have := hy.hlen; omega))).mono ?_
    rintro e w3 ⟨rfl, hx, ⟨vs', ho⟩, hl, hk⟩
    rw [relE_eq HIJ.out] at ho
    replace HA := Lib.hid (HA.out.low hl (by have := HB1.out; omega))
    replace HR := Lib.hid (HR.out.low hl (by have := HB1.out; omega))
    replace HL := Lib.hid (HL.out.trans (hl.mono (by have := HB1.out; omega)))
    replace HX := Lib.hid hx
    replace HO := Lib.hid ho
    clear hx ho hl hk
    go_wp2_with (first | (refine wpList_load_box rfl _ 33 rfl rfl HX.out _ Tryd.underlying33 sizeGate ?_) | (refine wpList_store_box rfl _ _ 33 rfl rfl [.int .i64 de, .int .i64 qu, .int .i64 wi, .int .i64 ti, .int .i64 qa, .int .i64 bu, .int .i64 le, .int .i64 pb, .int .i64 pc, .int .i64 pj, .int .i64 pt, .int .i64 nw, .int .i64 la, .slice ea1 E.length ec1, .slice ka1 K.length kc1, .int .i64 tu, .slice fa1 F.length fc1, .slice ra1 R.length rc1, .int .i64 tk, .int .i64 ac, .int .i64 dr] rfl HR.out sizeGate rfl rfl ?_; intro V hXb hgV hlV) | fail)
    exact bodyPost_ret (v := .agg #[.int .i64 de, .int .i64 qu, .int .i64 wi, .int .i64 ti, .int .i64 qa, .int .i64 bu, .int .i64 le, .int .i64 pb, .int .i64 pc, .int .i64 pj, .int .i64 pt, .int .i64 nw, .int .i64 la, .slice ea1 E.length ec1, .slice ka1 K.length kc1, .int .i64 tu, .slice fa1 F.length fc1, .slice ra1 R.length rc1, .int .i64 tk, .int .i64 ac, .int .i64 dr]) (results_box _ Tryd.results15 rfl hXb _ Tryd.underlying33 sizeGate) rfl ⟨⟨ea1, ec1, ka1, kc1, fa1, fc1, ra1, rc1, vs', by rw [conE_len, conK_len], by rw [conE_len, conK_len]; exact (HO.out.low hgV (by have := HB1.out; omega)).base (by have := HB1.out; omega)⟩, hlV w.heap.size w (by omega) HL.out⟩

end Go.Proofs.YtkndpkingmemoaaDoor.Gat
