/-
  refusal: why a Gate doesn't take an Event.
  keeper.remove with its slices.DeleteFunc.
  slices.DeleteFunc with the closure of keeper.remove; remove.
  keeper.remove; the program's Drain.
  keeper.take.
  A whole box stored in a drawn region; the program's Submit.
-/
import Derived.Test.YtkndpkingmemoaaDoorMgs
import Derived.Test.YtkndpkingmemoaaDoorMgm
import Derived.Test.YtkndpkingmemoaaDoorMgo
import Derived.Test.YtkndpkingmemoaaDoorMgn
namespace Go.Proofs.YtkndpkingmemoaaDoor.Gat
open Go.RowKit
open Lnk (bOne bAfter IOwn IIs YOwn YIs below_keep below_drew' bcell low_after low_alloc grown_of_below)
set_option linter.unusedVariables false
set_option linter.unusedSimpArgs false

theorem gok_open {de qu wi ti qa bu le pb pc pj pt nw la : Int} {en kn : Nat} {tu : Int} {fn rn : Nat} {tk ac dr : Int} {E : List Ev} {K : List Lk} {F R : List Int} (h : gokB de qu wi ti qa bu le pb pc pj pt nw la en kn tu fn rn tk ac dr E K F R = true) (hkn : K.length = kn) (hfn : F.length = fn) (d : Int) (hd : inB 1 de d = true) : (openN d E : Int) ≤ qu := by
  have h1 := (gokB_true h).2.2.2.1
  have h2 := inB_yes hd
  unfold slP at h1
  have h3 := h1.2.2 (d - 1).toNat (by omega) (by omega)
  have e : (((d - 1).toNat : Nat) : Int) + 1 = d := by omega
  rw [e] at h3
  unfold linkGood at h3
  have := h3
  omega
set_option maxRecDepth 100000 in
set_option maxHeartbeats 8000000 in
theorem refusal_any (w : World) (de qu wi ti qa bu le pb pc pj pt nw la : Int) (ea : Option Addr) (en ec : Nat) (ka : Option Addr) (kn kc : Nat) (tu : Int) (fa : Option Addr) (fn fc : Nat) (ra : Option Addr) (rn rc : Nat) (tk ac dr : Int) (E : List Ev) (K : List Lk) (F R : List Int) (hE : ∀ e ∈ E, (Lit.int .i64 e.i).wf = true) (hR : ∀ x ∈ R, (Lit.int .i64 x).wf = true) (i d c : Int) (bd : ByteArray) (at_ t r n s : Int) (hbd : bd.size ≤ maxLen) (h : GIs w.heap.size w ea en ka kn fa fn ra rn E K F R) (hs : Small en kn fn rn K) :
    Calls Tryd.prog 46 #[.agg #[.int .i64 de, .int .i64 qu, .int .i64 wi, .int .i64 ti, .int .i64 qa, .int .i64 bu, .int .i64 le, .int .i64 pb, .int .i64 pc, .int .i64 pj, .int .i64 pt, .int .i64 nw, .int .i64 la, .slice ea en ec, .slice ka kn kc, .int .i64 tu, .slice fa fn fc, .slice ra rn rc, .int .i64 tk, .int .i64 ac, .int .i64 dr], .agg #[.int .i64 i, .int .i64 d, .int .i64 c, .string bd, .int .i64 at_, .int .i64 t, .int .i64 r, .int .i64 n, .int .i64 s]] w fun e w' => e = .returned (errV (subC (gokB de qu wi ti qa bu le pb pc pj pt nw la en kn tu fn rn tk ac dr E K F R) nw de d c bd.size pt t qu en la E)) ∧ Below w.heap.size w w' := by
  obtain ⟨W0, hW0⟩ : ∃ W, W = (w.alloc (.cells #[.int .i64 de, .int .i64 qu, .int .i64 wi, .int .i64 ti, .int .i64 qa, .int .i64 bu, .int .i64 le, .int .i64 pb, .int .i64 pc, .int .i64 pj, .int .i64 pt, .int .i64 nw, .int .i64 la, .slice ea en ec, .slice ka kn kc, .int .i64 tu, .slice fa fn fc, .slice ra rn rc, .int .i64 tk, .int .i64 ac, .int .i64 dr] 33)).alloc (.cells #[.int .i64 i, .int .i64 d, .int .i64 c, .string bd, .int .i64 at_, .int .i64 t, .int .i64 r, .int .i64 n, .int .i64 s] 55) := ⟨_, rfl⟩
  have hb01 := bOne w (.cells #[.int .i64 de, .int .i64 qu, .int .i64 wi, .int .i64 ti, .int .i64 qa, .int .i64 bu, .int .i64 le, .int .i64 pb, .int .i64 pc, .int .i64 pj, .int .i64 pt, .int .i64 nw, .int .i64 la, .slice ea en ec, .slice ka kn kc, .int .i64 tu, .slice fa fn fc, .slice ra rn rc, .int .i64 tk, .int .i64 ac, .int .i64 dr] 33)
  have hb02 := bOne (w.alloc (.cells #[.int .i64 de, .int .i64 qu, .int .i64 wi, .int .i64 ti, .int .i64 qa, .int .i64 bu, .int .i64 le, .int .i64 pb, .int .i64 pc, .int .i64 pj, .int .i64 pt, .int .i64 nw, .int .i64 la, .slice ea en ec, .slice ka kn kc, .int .i64 tu, .slice fa fn fc, .slice ra rn rc, .int .i64 tk, .int .i64 ac, .int .i64 dr] 33)) (.cells #[.int .i64 i, .int .i64 d, .int .i64 c, .string bd, .int .i64 at_, .int .i64 t, .int .i64 r, .int .i64 n, .int .i64 s] 55)
  have HA : Hid (Box W0 w.heap.size 33 [.int .i64 de, .int .i64 qu, .int .i64 wi, .int .i64 ti, .int .i64 qa, .int .i64 bu, .int .i64 le, .int .i64 pb, .int .i64 pc, .int .i64 pj, .int .i64 pt, .int .i64 nw, .int .i64 la, .slice ea en ec, .slice ka kn kc, .int .i64 tu, .slice fa fn fc, .slice ra rn rc, .int .i64 tk, .int .i64 ac, .int .i64 dr]) := Lib.hid (by rw [hW0]; exact (Box.new w [.int .i64 de, .int .i64 qu, .int .i64 wi, .int .i64 ti, .int .i64 qa, .int .i64 bu, .int .i64 le, .int .i64 pb, .int .i64 pc, .int .i64 pj, .int .i64 pt, .int .i64 nw, .int .i64 la, .slice ea en ec, .slice ka kn kc, .int .i64 tu, .slice fa fn fc, .slice ra rn rc, .int .i64 tk, .int .i64 ac, .int .i64 dr] 33).below hb02)
  have HE1 : Hid (Box W0 (w.heap.size + 1) 55 [.int .i64 i, .int .i64 d, .int .i64 c, .string bd, .int .i64 at_, .int .i64 t, .int .i64 r, .int .i64 n, .int .i64 s]) := Lib.hid (by
    rw [hW0]
    have := Box.new (w.alloc (.cells #[.int .i64 de, .int .i64 qu, .int .i64 wi, .int .i64 ti, .int .i64 qa, .int .i64 bu, .int .i64 le, .int .i64 pb, .int .i64 pc, .int .i64 pj, .int .i64 pt, .int .i64 nw, .int .i64 la, .slice ea en ec, .slice ka kn kc, .int .i64 tu, .slice fa fn fc, .slice ra rn rc, .int .i64 tk, .int .i64 ac, .int .i64 dr] 33)) [.int .i64 i, .int .i64 d, .int .i64 c, .string bd, .int .i64 at_, .int .i64 t, .int .i64 r, .int .i64 n, .int .i64 s] 55
    simpa using this)
  have HL : Hid (Below w.heap.size w W0) := Lib.hid (by rw [hW0]; exact hb01.trans (hb02.mono (by simp)))
  have HWE := Lib.hid hW0
  have HG := Lib.hid h
  have HSM := Lib.hid hs
  have hEx := Lib.hid hE
  have hRx := Lib.hid hR
  obtain ⟨gk, hgk⟩ : ∃ x, x = (gokB de qu wi ti qa bu le pb pc pj pt nw la en kn tu fn rn tk ac dr E K F R) := ⟨_, rfl⟩
  have HGK := Lib.hid hgk
  have hen : en ≤ 1048576 := hs.1
  unfold maxLen at hbd
  clear hW0 hb01 hb02 h hs hE hR hgk
  go_enter Tryd.func46, Tryd.ntmps46
  go_upto_region 1 with fail
  rw [← HWE.out]
  clear HWE
  go_wp2_with (first | (refine wpList_load_box rfl _ 33 rfl rfl HA.out _ Tryd.underlying33 sizeGate ?_) | fail)
  refine (implGokB_any _ de qu wi ti qa bu le pb pc pj pt nw la ea en ec ka kn kc tu fa fn fc ra rn rc tk ac dr E K F R hEx.out hRx.out HSM.out.1 HSM.out.2.2.2.2 (HG.out.here HL.out)).mono ?_
  rintro e w2 ⟨rfl, hb⟩
  rw [← HGK.out]
  replace HA := Lib.hid (HA.out.below hb)
  replace HE1 := Lib.hid (HE1.out.below hb)
  replace HL := Lib.hid (low_after HL.out hb)
  clear hb
  cases gk with
  | false =>
    have a1 := HA.out.cell 11 _ rfl
    have a2 := HA.out.cell 12 _ rfl
    have a3 := HA.out.cell 13 _ rfl
    have a4 := HA.out.cell 10 _ rfl
    have e1 := HE1.out.cell 1 _ rfl
    have e2 := HE1.out.cell 2 _ rfl
    have e3 := HE1.out.cell 3 _ rfl
    have e5 := HE1.out.cell 5 _ rfl
    have HQ := Lib.hid (show subC (gokB de qu wi ti qa bu le pb pc pj pt nw la en kn tu fn rn tk ac dr E K F R) nw de d c bd.size pt t qu en la E = 1 from by unfold subC; rw [← HGK.out]; simp only [cond_true, cond_false, Bool.not_true, Bool.not_false, Bool.or_true, Bool.true_or, Bool.or_false, Bool.false_or])
    go_wp2_with fail
    go_ret
    exact ⟨by rw [HQ.out]; rfl, HL.out⟩
  | true =>
  have HGT := Lib.hid HGK.out.symm
  cases h2 : (nw == 1000000000) with
  | true =>
    have a1 := HA.out.cell 11 _ rfl
    have a2 := HA.out.cell 12 _ rfl
    have a3 := HA.out.cell 13 _ rfl
    have a4 := HA.out.cell 10 _ rfl
    have e1 := HE1.out.cell 1 _ rfl
    have e2 := HE1.out.cell 2 _ rfl
    have e3 := HE1.out.cell 3 _ rfl
    have e5 := HE1.out.cell 5 _ rfl
    have HQ := Lib.hid (show subC (gokB de qu wi ti qa bu le pb pc pj pt nw la en kn tu fn rn tk ac dr E K F R) nw de d c bd.size pt t qu en la E = 2 from by unfold subC; rw [← HGK.out]; simp only [h2, cond_true, cond_false, Bool.not_true, Bool.not_false, Bool.or_true, Bool.true_or, Bool.or_false, Bool.false_or])
    go_wp2_with fail
    go_ret
    exact ⟨by rw [HQ.out]; rfl, HL.out⟩
  | false =>
  have a1 := HA.out.cell 11 _ rfl
  have a2 := HA.out.cell 12 _ rfl
  have a3 := HA.out.cell 13 _ rfl
  have a4 := HA.out.cell 10 _ rfl
  have e1 := HE1.out.cell 1 _ rfl
  have e2 := HE1.out.cell 2 _ rfl
  have e3 := HE1.out.cell 3 _ rfl
  have e5 := HE1.out.cell 5 _ rfl
  go_wp2_with (first | (refine wpList_load_box rfl _ 33 rfl rfl HA.out _ Tryd.underlying33 sizeGate ?_) | fail)
  refine (hasDev_any _ de qu wi ti qa bu le pb pc pj pt nw la ea en ec ka kn kc tu fa fn fc ra rn rc tk ac dr d).mono ?_
  rintro e w3 ⟨rfl, hb⟩
  clear a1 a2 a3 a4 e1 e2 e3 e5
  replace HA := Lib.hid (HA.out.below hb)
  replace HE1 := Lib.hid (HE1.out.below hb)
  replace HL := Lib.hid (low_after HL.out hb)
  clear hb
  cases h3 : inB 1 de d with
  | false =>
    have a1 := HA.out.cell 11 _ rfl
    have a2 := HA.out.cell 12 _ rfl
    have a3 := HA.out.cell 13 _ rfl
    have a4 := HA.out.cell 10 _ rfl
    have e1 := HE1.out.cell 1 _ rfl
    have e2 := HE1.out.cell 2 _ rfl
    have e3 := HE1.out.cell 3 _ rfl
    have e5 := HE1.out.cell 5 _ rfl
    have HQ := Lib.hid (show subC (gokB de qu wi ti qa bu le pb pc pj pt nw la en kn tu fn rn tk ac dr E K F R) nw de d c bd.size pt t qu en la E = 3 from by unfold subC; rw [← HGK.out]; simp only [h2, h3, cond_true, cond_false, Bool.not_true, Bool.not_false, Bool.or_true, Bool.true_or, Bool.or_false, Bool.false_or])
    go_wp2_with fail
    go_ret
    exact ⟨by rw [HQ.out]; rfl, HL.out⟩
  | true =>
  cases k4 : decide (c < 1) with
  | true =>
    have h4 : inB 1 9 c = false := by simp at k4; unfold inB; simp; omega
    have a1 := HA.out.cell 11 _ rfl
    have a2 := HA.out.cell 12 _ rfl
    have a3 := HA.out.cell 13 _ rfl
    have a4 := HA.out.cell 10 _ rfl
    have e1 := HE1.out.cell 1 _ rfl
    have e2 := HE1.out.cell 2 _ rfl
    have e3 := HE1.out.cell 3 _ rfl
    have e5 := HE1.out.cell 5 _ rfl
    have HQ := Lib.hid (show subC (gokB de qu wi ti qa bu le pb pc pj pt nw la en kn tu fn rn tk ac dr E K F R) nw de d c bd.size pt t qu en la E = 4 from by unfold subC; rw [← HGK.out]; simp only [h2, h3, h4, cond_true, cond_false, Bool.not_true, Bool.not_false, Bool.or_true, Bool.true_or, Bool.or_false, Bool.false_or])
    go_wp2_with fail
    go_ret
    exact ⟨by rw [HQ.out]; rfl, HL.out⟩
  | false =>
  cases l4 : decide (9 < c) with
  | true =>
    have h4 : inB 1 9 c = false := by simp at l4; unfold inB; simp; omega
    have a1 := HA.out.cell 11 _ rfl
    have a2 := HA.out.cell 12 _ rfl
    have a3 := HA.out.cell 13 _ rfl
    have a4 := HA.out.cell 10 _ rfl
    have e1 := HE1.out.cell 1 _ rfl
    have e2 := HE1.out.cell 2 _ rfl
    have e3 := HE1.out.cell 3 _ rfl
    have e5 := HE1.out.cell 5 _ rfl
    have HQ := Lib.hid (show subC (gokB de qu wi ti qa bu le pb pc pj pt nw la en kn tu fn rn tk ac dr E K F R) nw de d c bd.size pt t qu en la E = 4 from by unfold subC; rw [← HGK.out]; simp only [h2, h3, h4, cond_true, cond_false, Bool.not_true, Bool.not_false, Bool.or_true, Bool.true_or, Bool.or_false, Bool.false_or])
    go_wp2_with fail
    go_ret
    exact ⟨by rw [HQ.out]; rfl, HL.out⟩
  | false =>
  have h4 : inB 1 9 c = true := by simp at k4 l4; unfold inB; simp; omega
  cases h5 : decide ((40 : Int) < (bd.size : Int)) with
  | true =>
    have a1 := HA.out.cell 11 _ rfl
    have a2 := HA.out.cell 12 _ rfl
    have a3 := HA.out.cell 13 _ rfl
    have a4 := HA.out.cell 10 _ rfl
    have e1 := HE1.out.cell 1 _ rfl
    have e2 := HE1.out.cell 2 _ rfl
    have e3 := HE1.out.cell 3 _ rfl
    have e5 := HE1.out.cell 5 _ rfl
    have HQ := Lib.hid (show subC (gokB de qu wi ti qa bu le pb pc pj pt nw la en kn tu fn rn tk ac dr E K F R) nw de d c bd.size pt t qu en la E = 5 from by unfold subC; rw [← HGK.out]; simp only [h2, h3, h4, h5, cond_true, cond_false, Bool.not_true, Bool.not_false, Bool.or_true, Bool.true_or, Bool.or_false, Bool.false_or])
    go_wp2_with fail
    go_ret
    exact ⟨by rw [HQ.out]; rfl, HL.out⟩
  | false =>
  cases k6 : decide (t < 1) with
  | true =>
    have h6 : inB 1 pt t = false := by simp at k6; unfold inB; simp; omega
    have a1 := HA.out.cell 11 _ rfl
    have a2 := HA.out.cell 12 _ rfl
    have a3 := HA.out.cell 13 _ rfl
    have a4 := HA.out.cell 10 _ rfl
    have e1 := HE1.out.cell 1 _ rfl
    have e2 := HE1.out.cell 2 _ rfl
    have e3 := HE1.out.cell 3 _ rfl
    have e5 := HE1.out.cell 5 _ rfl
    have HQ := Lib.hid (show subC (gokB de qu wi ti qa bu le pb pc pj pt nw la en kn tu fn rn tk ac dr E K F R) nw de d c bd.size pt t qu en la E = 6 from by unfold subC; rw [← HGK.out]; simp only [h2, h3, h4, h5, h6, cond_true, cond_false, Bool.not_true, Bool.not_false, Bool.or_true, Bool.true_or, Bool.or_false, Bool.false_or])
    go_wp2_with fail
    go_ret
    exact ⟨by rw [HQ.out]; rfl, HL.out⟩
  | false =>
  cases l6 : decide (pt < t) with
  | true =>
    have h6 : inB 1 pt t = false := by simp at l6; unfold inB; simp; omega
    have a1 := HA.out.cell 11 _ rfl
    have a2 := HA.out.cell 12 _ rfl
    have a3 := HA.out.cell 13 _ rfl
    have a4 := HA.out.cell 10 _ rfl
    have e1 := HE1.out.cell 1 _ rfl
    have e2 := HE1.out.cell 2 _ rfl
    have e3 := HE1.out.cell 3 _ rfl
    have e5 := HE1.out.cell 5 _ rfl
    have HQ := Lib.hid (show subC (gokB de qu wi ti qa bu le pb pc pj pt nw la en kn tu fn rn tk ac dr E K F R) nw de d c bd.size pt t qu en la E = 6 from by unfold subC; rw [← HGK.out]; simp only [h2, h3, h4, h5, h6, cond_true, cond_false, Bool.not_true, Bool.not_false, Bool.or_true, Bool.true_or, Bool.or_false, Bool.false_or])
    go_wp2_with fail
    go_ret
    exact ⟨by rw [HQ.out]; rfl, HL.out⟩
  | false =>
  have h6 : inB 1 pt t = true := by simp at k6 l6; unfold inB; simp; omega
  have a1 := HA.out.cell 11 _ rfl
  have a2 := HA.out.cell 12 _ rfl
  have a3 := HA.out.cell 13 _ rfl
  have a4 := HA.out.cell 10 _ rfl
  have e1 := HE1.out.cell 1 _ rfl
  have e2 := HE1.out.cell 2 _ rfl
  have e3 := HE1.out.cell 3 _ rfl
  have e5 := HE1.out.cell 5 _ rfl
  go_upto_region 13 with fail
  clear a1 a2 a3 a4 e1 e2 e3 e5
  have hb := below_drew' (Below.refl w3.heap.size w3)
  replace HA := Lib.hid (HA.out.below hb)
  replace HE1 := Lib.hid (HE1.out.below hb)
  replace HL := Lib.hid (low_after HL.out hb)
  have HT := Lib.hid (HG.out.here HL.out)
  clear hb
  refine wp_region_held_drew (S := fun w' => Box w' w.heap.size 33 [.int .i64 de, .int .i64 qu, .int .i64 wi, .int .i64 ti, .int .i64 qa, .int .i64 bu, .int .i64 le, .int .i64 pb, .int .i64 pc, .int .i64 pj, .int .i64 pt, .int .i64 nw, .int .i64 la, .slice ea en ec, .slice ka kn kc, .int .i64 tu, .slice fa fn fc, .slice ra rn rc, .int .i64 tk, .int .i64 ac, .int .i64 dr] ∧ w'.cell? ⟨(w.heap.size + 1), 1, none⟩ = some (.int .i64 d)) (by kernel_rfl) ⟨HA.out, HE1.out.cell 1 _ rfl⟩ (fun hHeld => ?_)
  obtain ⟨wd, hwd⟩ : ∃ x, x = w3.drew := ⟨_, rfl⟩
  rw [← hwd] at HA HE1 HL HT hHeld ⊢
  clear hwd
  refine wpAnyH_take (i := 0) (oi := { dst := some _, op := _, type := _, pos := _, after := _, guard := _ }) (v := ?_) rfl (by kernel_rfl) (by kernel_rfl) (by kernel_rfl) (fun _ _ _ h => h) ?_ (by with_reducible assumption) ?_
  rotate_left 1
  focus (refine Or.inl ⟨by rfl, ?_⟩; intro wq hSw; refine exec_load_box ?_ 33 ?_ ?_ hSw.1 _ Tryd.underlying33 sizeGate; rotate_left 1; rfl; rfl)
  try simp only [Act.put, List.setIfInBounds_toArray, List.set_cons_zero, List.set_cons_succ]
  refine wpAnyH_take (i := 1) (oi := { dst := some _, op := _, type := _, pos := _, after := _, guard := _ }) (v := ?_) rfl (by kernel_rfl) (by kernel_rfl) (by kernel_rfl) (fun _ _ _ h => h) ?_ (by with_reducible assumption) ?_
  rotate_left 1
  focus (refine Or.inl ⟨by rfl, ?_⟩; intro wq hSw; go_simp; try with_reducible rfl)
  try simp only [Act.put, List.setIfInBounds_toArray, List.set_cons_zero, List.set_cons_succ]
  refine wpAnyH_take (i := 2) (oi := { dst := some _, op := _, type := _, pos := _, after := _, guard := _ }) (v := ?_) rfl (by kernel_rfl) (by kernel_rfl) (by kernel_rfl) (fun _ _ _ h => h) ?_ (by with_reducible assumption) ?_
  rotate_left 1
  focus (refine Or.inl ⟨by rfl, ?_⟩; intro wq hSw; have q0 := hSw.2; go_simp; try with_reducible rfl)
  try simp only [Act.put, List.setIfInBounds_toArray, List.set_cons_zero, List.set_cons_succ]
  refine wpAnyH_take (i := 4) (oi := { dst := some _, op := _, type := _, pos := _, after := _, guard := _ }) (v := ?_) rfl (by kernel_rfl) (by kernel_rfl) (by kernel_rfl) (fun _ _ _ h => h) ?_ (by with_reducible assumption) ?_
  rotate_left 1
  focus (refine Or.inl ⟨by rfl, ?_⟩; intro wq hSw; go_simp; try with_reducible rfl)
  try simp only [Act.put, List.setIfInBounds_toArray, List.set_cons_zero, List.set_cons_succ]
  refine wpAnyH_take (i := 5) (oi := { dst := some _, op := _, type := _, pos := _, after := _, guard := _ }) (v := ?_) rfl (by kernel_rfl) (by kernel_rfl) (by kernel_rfl) (fun _ _ _ h => h) ?_ (by with_reducible assumption) ?_
  rotate_left 1
  focus (refine Or.inl ⟨by rfl, ?_⟩; intro wq hSw; go_simp; try with_reducible rfl)
  try simp only [Act.put, List.setIfInBounds_toArray, List.set_cons_zero, List.set_cons_succ]
  refine wpAnyH_take (i := 6) (oi := { dst := some _, op := _, type := _, pos := _, after := _, guard := _ }) (v := ?_) rfl (by kernel_rfl) (by kernel_rfl) (by kernel_rfl) (fun _ _ _ h => h) ?_ (by with_reducible assumption) ?_
  rotate_left 1
  focus (refine Or.inl ⟨by rfl, ?_⟩; intro wq hSw; have q1 := hSw.1.cell 1 _ rfl; go_simp; try with_reducible rfl)
  try simp only [Act.put, List.setIfInBounds_toArray, List.set_cons_zero, List.set_cons_succ]
  refine wpAnyH_ready (rs := [3]) (by kernel_rfl) (by simp) ?_
  refine AllReadyH.cons rfl (fun KA hKA => ?_) AllReadyH.nil
  go_simp
  refine (implOpenOf_any _ de qu wi ti qa bu le pb pc pj pt nw la ea en ec ka kn kc tu fa fn fc ra rn rc tk ac dr E K F R d HT.out).mono ?_
  rintro e v1 ⟨rfl, hb⟩
  replace HA := Lib.hid (HA.out.below hb)
  replace HE1 := Lib.hid (HE1.out.below hb)
  replace HL := Lib.hid (low_after HL.out hb)
  clear hb hHeld HT
  dsimp only
  refine hKA.out _ _ (⟨HA.out, HE1.out.cell 1 _ rfl⟩) (fun hHeld => ?_)
  clear hKA
  try simp only [Act.put, List.setIfInBounds_toArray, List.set_cons_zero, List.set_cons_succ]
  refine wpAnyH_take (i := 7) (oi := { dst := some _, op := _, type := _, pos := _, after := _, guard := _ }) (v := ?_) rfl (by kernel_rfl) (by kernel_rfl) (by kernel_rfl) (fun _ _ _ h => h) ?_ (by with_reducible assumption) ?_
  rotate_left 1
  focus (refine Or.inl ⟨by rfl, ?_⟩; intro wq hSw; go_simp; try with_reducible rfl)
  try simp only [Act.put, List.setIfInBounds_toArray, List.set_cons_zero, List.set_cons_succ]
  refine wpAnyH_take (i := 8) (oi := { dst := some _, op := _, type := _, pos := _, after := _, guard := _ }) (v := ?_) rfl (by kernel_rfl) (by kernel_rfl) (by kernel_rfl) (fun _ _ _ h => h) ?_ (by with_reducible assumption) ?_
  rotate_left 1
  focus (refine Or.inl ⟨by rfl, ?_⟩; intro wq hSw; go_simp; try with_reducible rfl)
  try simp only [Act.put, List.setIfInBounds_toArray, List.set_cons_zero, List.set_cons_succ]
  refine wpAnyH_done (by kernel_rfl) ?_ _
  clear hHeld
  have HOQ := Lib.hid (gok_open HGT.out HG.out.lk.hlen HG.out.lf.hlen d h3)
  cases h7 : decide (qu ≤ (openN d E : Int)) with
  | true =>
    have k7 : ((openN d E : Int) == qu) = true := by have := HOQ.out; simp at h7 ⊢; omega
    have a1 := HA.out.cell 11 _ rfl
    have a2 := HA.out.cell 12 _ rfl
    have a3 := HA.out.cell 13 _ rfl
    have a4 := HA.out.cell 10 _ rfl
    have e1 := HE1.out.cell 1 _ rfl
    have e2 := HE1.out.cell 2 _ rfl
    have e3 := HE1.out.cell 3 _ rfl
    have e5 := HE1.out.cell 5 _ rfl
    have HQ := Lib.hid (show subC (gokB de qu wi ti qa bu le pb pc pj pt nw la en kn tu fn rn tk ac dr E K F R) nw de d c bd.size pt t qu en la E = 7 from by unfold subC; rw [← HGK.out]; simp only [h2, h3, h4, h5, h6, h7, cond_true, cond_false, Bool.not_true, Bool.not_false, Bool.or_true, Bool.true_or, Bool.or_false, Bool.false_or])
    go_wp2_with fail
    go_ret
    exact ⟨by rw [HQ.out]; rfl, HL.out⟩
  | false =>
  have k7 : ((openN d E : Int) == qu) = false := by simp at h7 ⊢; omega
  cases h8 : ((en : Int) == 60) with
  | true =>
    have a1 := HA.out.cell 11 _ rfl
    have a2 := HA.out.cell 12 _ rfl
    have a3 := HA.out.cell 13 _ rfl
    have a4 := HA.out.cell 10 _ rfl
    have e1 := HE1.out.cell 1 _ rfl
    have e2 := HE1.out.cell 2 _ rfl
    have e3 := HE1.out.cell 3 _ rfl
    have e5 := HE1.out.cell 5 _ rfl
    have HQ := Lib.hid (show subC (gokB de qu wi ti qa bu le pb pc pj pt nw la en kn tu fn rn tk ac dr E K F R) nw de d c bd.size pt t qu en la E = 8 from by unfold subC; rw [← HGK.out]; simp only [h2, h3, h4, h5, h6, h7, h8, cond_true, cond_false, Bool.not_true, Bool.not_false, Bool.or_true, Bool.true_or, Bool.or_false, Bool.false_or])
    go_wp2_with fail
    go_ret
    exact ⟨by rw [HQ.out]; rfl, HL.out⟩
  | false =>
  cases h9 : (la == 9999) with
  | true =>
    have a1 := HA.out.cell 11 _ rfl
    have a2 := HA.out.cell 12 _ rfl
    have a3 := HA.out.cell 13 _ rfl
    have a4 := HA.out.cell 10 _ rfl
    have e1 := HE1.out.cell 1 _ rfl
    have e2 := HE1.out.cell 2 _ rfl
    have e3 := HE1.out.cell 3 _ rfl
    have e5 := HE1.out.cell 5 _ rfl
    have HQ := Lib.hid (show subC (gokB de qu wi ti qa bu le pb pc pj pt nw la en kn tu fn rn tk ac dr E K F R) nw de d c bd.size pt t qu en la E = 8 from by unfold subC; rw [← HGK.out]; simp only [h2, h3, h4, h5, h6, h7, h8, h9, cond_true, cond_false, Bool.not_true, Bool.not_false, Bool.or_true, Bool.true_or, Bool.or_false, Bool.false_or])
    go_wp2_with fail
    go_ret
    exact ⟨by rw [HQ.out]; rfl, HL.out⟩
  | false =>
  have a1 := HA.out.cell 11 _ rfl
  have a2 := HA.out.cell 12 _ rfl
  have a3 := HA.out.cell 13 _ rfl
  have a4 := HA.out.cell 10 _ rfl
  have e1 := HE1.out.cell 1 _ rfl
  have e2 := HE1.out.cell 2 _ rfl
  have e3 := HE1.out.cell 3 _ rfl
  have e5 := HE1.out.cell 5 _ rfl
  have HQ := Lib.hid (show subC (gokB de qu wi ti qa bu le pb pc pj pt nw la en kn tu fn rn tk ac dr E K F R) nw de d c bd.size pt t qu en la E = 0 from by unfold subC; rw [← HGK.out]; simp only [h2, h3, h4, h5, h6, h7, h8, h9, cond_true, cond_false, Bool.not_true, Bool.not_false, Bool.or_true, Bool.true_or, Bool.or_false, Bool.false_or])
  go_wp2_with fail
  go_ret
  exact ⟨by rw [HQ.out]; rfl, HL.out⟩

end Go.Proofs.YtkndpkingmemoaaDoor.Gat
namespace Go.Proofs.YtkndpkingmemoaaDoor.Gat
open Go.RowKit
open Lnk (bOne bAfter IOwn IIs YOwn YIs below_keep below_drew' bcell low_after low_alloc grown_of_below)
set_option linter.unusedVariables false
set_option linter.unusedSimpArgs false

/-- messages without those of some ids -/
def keepL (ids : List Int) (E : List Ev) : List Ev := E.filter fun e => !hasI ids e.i
theorem keepL_snoc_no {ids : List Int} {E : List Ev} {j : Nat} (h : j < E.length) (hn : hasI ids E[j].i = true) : keepL ids (E.take (j + 1)) = keepL ids (E.take j) := by
  unfold keepL
  rw [List.take_succ_eq_append_getElem h, List.filter_append]
  simp [hn]
theorem keepL_all {ids : List Int} {E : List Ev} (h : ∀ e ∈ E, hasI ids e.i = false) : keepL ids E = E := by
  unfold keepL
  exact List.filter_eq_self.2 fun e he => by rw [h e he]; rfl
/-- the box of the closure's ids, and the ids -/
structure IdB (w : World) (kp Bi : Nat) (ia : Option Addr) (n ic : Nat) (ids : List Int) : Prop where
  box : Box w kp 31 [.slice ia n ic]
  row : (inR (.slice ia n ic) ids).At Bi w
theorem IdB.below {w w' : World} {kp Bi : Nat} {ia : Option Addr} {n ic : Nat} {ids : List Int} (h : IdB w kp Bi ia n ic ids) (hb : Below w.heap.size w w') : IdB w' kp Bi ia n ic ids := ⟨h.box.below hb, inR_below h.row hb⟩
theorem IdB.ev {w w' : World} {kp Bi B : Nat} {ia : Option Addr} {n ic : Nat} {ids : List Int} {v : Value} {l : List Ev} (h : IdB w kp Bi ia n ic ids) (hr : (evR v l).At B w) (hg : w.grownBy w' v.ownBlock) : IdB w' kp Bi ia n ic ids := ⟨h.box.grown hg (hr.ne_box rfl h.box rfl), inR_kept h.row hr ne_ei hg⟩

end Go.Proofs.YtkndpkingmemoaaDoor.Gat
namespace Go.Proofs.YtkndpkingmemoaaDoor.Gat
open Go.RowKit
open Lnk (bOne bAfter IOwn IIs YOwn YIs below_keep below_drew' bcell low_after low_alloc grown_of_below)
set_option linter.unusedVariables false
set_option linter.unusedSimpArgs false

/-- a row under way: the first i are those of the first j that stay -/
structure DelAt (ids : List Int) (E M : List Ev) (i j : Nat) : Prop where
  len : M.length = E.length
  ij : i < j
  jn : j ≤ E.length
  num : (keepL ids (E.take j)).length = i
  low : M.take i = keepL ids (E.take j)
  high : M.drop j = E.drop j
theorem DelAt.start {ids : List Int} {E : List Ev} {k : Nat} (hk : k < E.length) (h1 : hasI ids E[k].i = true) (h2 : ∀ x ∈ E.take k, hasI ids x.i = false) : DelAt ids E E k (k + 1) :=
  ⟨rfl, by omega, hk, by rw [keepL_snoc_no hk h1, keepL_all h2, List.length_take]; omega, by rw [keepL_snoc_no hk h1, keepL_all h2], rfl⟩
theorem DelAt.at {ids : List Int} {E M : List Ev} {i j : Nat} (h : DelAt ids E M i j) (hj : j < E.length) (hm : j < M.length) : M[j] = E[j] := by
  have h1 := congrArg (fun l => l[0]?) h.high
  simp only [List.getElem?_drop, Nat.add_zero] at h1
  rw [List.getElem?_eq_getElem hm, List.getElem?_eq_getElem hj] at h1
  injection h1
end Go.Proofs.YtkndpkingmemoaaDoor.Gat
namespace Go.Proofs.YtkndpkingmemoaaDoor.Gat
open Go.RowKit
open Lnk (bOne bAfter IOwn IIs YOwn YIs below_keep below_drew' bcell low_after low_alloc grown_of_below)
set_option linter.unusedVariables false
set_option linter.unusedSimpArgs false

theorem gRows_rowTy {ev lk lf lt : Value} {vs : List Value} {E : List Ev} {K : List Lk} {F R : List Int} : ∀ r ∈ gRows ev lk lf lt vs E K F R, rowTy r.E = true := by
  intro r hr
  unfold gRows at hr
  simp only [List.mem_cons] at hr
  rcases hr with rfl | rfl | rfl | rfl | hr
  · rfl
  · rfl
  · rfl
  · rfl
  · rw [flRs_ty hr]; rfl
/-- a box of another type was written -/
theorem GOwn.offbox4 {B : Nat} {w w' : World} {ev lk lf lt : Value} {vs : List Value} {E : List Ev} {K : List Lk} {F R : List Int} {k : Nat} {T : TypeId} {l : List Value} (h : GOwn B w ev lk lf lt vs E K F R) (hb : Box w k T l) (hT : rowTy T = false) (hg : w.grownBy w' (some k)) : GOwn B w' ev lk lf lt vs E K F R :=
  ⟨h.rows.offbox hb (fun r hr e => by have h1 := gRows_rowTy r hr; rw [e, hT] at h1; cases h1) hg, h.len, h.body⟩

end Go.Proofs.YtkndpkingmemoaaDoor.Gat
namespace Go.Proofs.YtkndpkingmemoaaDoor.Gat
open Go.RowKit
open Lnk (bOne bAfter IOwn IIs YOwn YIs below_keep below_drew' bcell low_after low_alloc grown_of_below)
set_option linter.unusedVariables false
set_option linter.unusedSimpArgs false

theorem body_app {E : List Ev} {x : Ev} (h : ∀ e ∈ E, e.b.size ≤ maxLen) (hx : x.b.size ≤ maxLen) : ∀ e ∈ E ++ [x], e.b.size ≤ maxLen := by
  intro e he
  rcases List.mem_append.1 he with he | he
  · exact h e he
  · rw [List.mem_singleton.1 he]; exact hx
set_option maxRecDepth 100000 in
set_option maxHeartbeats 8000000 in
theorem take_any (w : World) (B kb : Nat) (de qu wi ti qa bu le pb pc pj pt nw la : Int) (ea : Option Addr) (ec : Nat) (ka : Option Addr) (kc : Nat) (tu : Int) (fa : Option Addr) (fc : Nat) (ra : Option Addr) (rc : Nat) (tk ac dr : Int) (vs : List Value) (E : List Ev) (K : List Lk) (F R : List Int) (hE : ∀ e ∈ E, (Lit.int .i64 e.i).wf = true) (hR : ∀ x ∈ R, (Lit.int .i64 x).wf = true) (i d c : Int) (bd : ByteArray) (at_ t r n s : Int) (hbd : bd.size ≤ maxLen) (hx : Box w kb 49 [.int .i64 de, .int .i64 qu, .int .i64 wi, .int .i64 ti, .int .i64 qa, .int .i64 bu, .int .i64 le, .int .i64 pb, .int .i64 pc, .int .i64 pj, .int .i64 pt, .int .i64 nw, .int .i64 la, .slice ea E.length ec, .slice ka K.length kc, .int .i64 tu, .slice fa F.length fc, .slice ra R.length rc, .int .i64 tk, .int .i64 ac, .int .i64 dr]) (hkb : B ≤ kb) (h : GOwn B w (.slice ea E.length ec) (.slice ka K.length kc) (.slice fa F.length fc) (.slice ra R.length rc) vs E K F R) (hB : B ≤ w.heap.size) (hs : Small E.length K.length F.length R.length K) (htk : (subC (gokB de qu wi ti qa bu le pb pc pj pt nw la E.length K.length tu F.length R.length tk ac dr E K F R) nw de d c bd.size pt t qu E.length la E = 0 → 0 ≤ tk ∧ tk ≤ 9999)) :
    Calls Tryd.prog 21 #[.pointer (some ⟨kb, 0, none⟩), .agg #[.int .i64 i, .int .i64 d, .int .i64 c, .string bd, .int .i64 at_, .int .i64 t, .int .i64 r, .int .i64 n, .int .i64 s]] w fun e w' => (subC (gokB de qu wi ti qa bu le pb pc pj pt nw la E.length K.length tu F.length R.length tk ac dr E K F R) nw de d c bd.size pt t qu E.length la E ≠ 0 → e = .returned (.tuple #[.int .i64 0, errV (subC (gokB de qu wi ti qa bu le pb pc pj pt nw la E.length K.length tu F.length R.length tk ac dr E K F R) nw de d c bd.size pt t qu E.length la E)]) ∧ Box w' kb 49 [.int .i64 de, .int .i64 qu, .int .i64 wi, .int .i64 ti, .int .i64 qa, .int .i64 bu, .int .i64 le, .int .i64 pb, .int .i64 pc, .int .i64 pj, .int .i64 pt, .int .i64 nw, .int .i64 la, .slice ea E.length ec, .slice ka K.length kc, .int .i64 tu, .slice fa F.length fc, .slice ra R.length rc, .int .i64 tk, .int .i64 ac, .int .i64 dr] ∧ GOwn B w' (.slice ea E.length ec) (.slice ka K.length kc) (.slice fa F.length fc) (.slice ra R.length rc) vs E K F R ∧ Below B w w') ∧ (subC (gokB de qu wi ti qa bu le pb pc pj pt nw la E.length K.length tu F.length R.length tk ac dr E K F R) nw de d c bd.size pt t qu E.length la E = 0 → ∃ ea2 ec2, e = .returned (.tuple #[.int .i64 i, errV 0]) ∧ Box w' kb 49 [.int .i64 de, .int .i64 qu, .int .i64 wi, .int .i64 ti, .int .i64 qa, .int .i64 bu, .int .i64 le, .int .i64 pb, .int .i64 pc, .int .i64 pj, .int .i64 pt, .int .i64 nw, .int .i64 i, .slice ea2 (E.length + 1) ec2, .slice ka K.length kc, .int .i64 tu, .slice fa F.length fc, .slice ra R.length rc, .int .i64 (tk + 1), .int .i64 ac, .int .i64 dr] ∧ GOwn B w' (.slice ea2 (E.length + 1) ec2) (.slice ka K.length kc) (.slice fa F.length fc) (.slice ra R.length rc) vs (E ++ [⟨i, d, c, bd, at_, t, r, n, s⟩]) K F R ∧ Below B w w') := by
  obtain ⟨W0, hW0⟩ : ∃ W, W = w.alloc (.cells #[.int .i64 i, .int .i64 d, .int .i64 c, .string bd, .int .i64 at_, .int .i64 t, .int .i64 r, .int .i64 n, .int .i64 s] 55) := ⟨_, rfl⟩
  have hb := bOne w (.cells #[.int .i64 i, .int .i64 d, .int .i64 c, .string bd, .int .i64 at_, .int .i64 t, .int .i64 r, .int .i64 n, .int .i64 s] 55)
  have HC : Hid (Box W0 w.heap.size 55 [.int .i64 i, .int .i64 d, .int .i64 c, .string bd, .int .i64 at_, .int .i64 t, .int .i64 r, .int .i64 n, .int .i64 s]) := Lib.hid (by rw [hW0]; exact Box.new w [.int .i64 i, .int .i64 d, .int .i64 c, .string bd, .int .i64 at_, .int .i64 t, .int .i64 r, .int .i64 n, .int .i64 s] 55)
  have HNE := Lib.hid (show (Value.slice ea E.length ec).ownBlock ≠ some w.heap.size from fun e => by have := (World.ownsRow.lt h.evO w.heap.size e).2; omega)
  have HKE := Lib.hid (show kb < w.heap.size from World.block_lt_of_cell? _ _ (hx.cell 0 _ rfl))
  rw [← hW0] at hb
  have HX := Lib.hid (hx.below hb)
  have HO := Lib.hid (h.below hb)
  have HL := Lib.hid (hb.mono hB)
  have HBW := Lib.hid (Nat.le_trans hB hb.size)
  have HWE := Lib.hid hW0
  have HSM := Lib.hid hs
  have HBD := Lib.hid hbd
  have HKB := Lib.hid hkb
  have hEx := Lib.hid hE
  have hRx := Lib.hid hR
  have HTK := Lib.hid htk
  have hen : E.length ≤ 1048576 := hs.1
  obtain ⟨cd, hcd⟩ : ∃ x, x = subC (gokB de qu wi ti qa bu le pb pc pj pt nw la E.length K.length tu F.length R.length tk ac dr E K F R) nw de d c bd.size pt t qu E.length la E := ⟨_, rfl⟩
  rw [← hcd] at HTK ⊢
  have HCD := Lib.hid hcd
  obtain ⟨ke, hke⟩ : ∃ k, k = w.heap.size := ⟨_, rfl⟩
  rw [← hke] at HC HNE HKE
  clear hx h hb hW0 hs hE hR hcd htk hbd
  go_enter Tryd.func21, Tryd.ntmps21
  go_upto_region 1 with fail
  rw [← HWE.out, ← hke]
  clear HWE hke
  have hb := below_drew' (Below.refl W0.heap.size W0)
  replace HX := Lib.hid (HX.out.below hb)
  replace HO := Lib.hid (HO.out.below hb)
  replace HC := Lib.hid (HC.out.below hb)
  replace HL := Lib.hid (HL.out.trans (hb.mono HBW.out))
  replace HBW := Lib.hid (Nat.le_trans HBW.out hb.size)
  clear hb
  refine wp_region_held_drew (S := fun w' => Box w' kb 49 [.int .i64 de, .int .i64 qu, .int .i64 wi, .int .i64 ti, .int .i64 qa, .int .i64 bu, .int .i64 le, .int .i64 pb, .int .i64 pc, .int .i64 pj, .int .i64 pt, .int .i64 nw, .int .i64 la, .slice ea E.length ec, .slice ka K.length kc, .int .i64 tu, .slice fa F.length fc, .slice ra R.length rc, .int .i64 tk, .int .i64 ac, .int .i64 dr] ∧ Box w' ke 55 [.int .i64 i, .int .i64 d, .int .i64 c, .string bd, .int .i64 at_, .int .i64 t, .int .i64 r, .int .i64 n, .int .i64 s]) (by kernel_rfl) ⟨HX.out, HC.out⟩ (fun hHeld => ?_)
  obtain ⟨wd, hwd⟩ : ∃ x, x = W0.drew := ⟨_, rfl⟩
  rw [← hwd] at HX HO HL HBW HC hHeld ⊢
  clear hwd
  refine wpAnyH_take (i := 0) (oi := { dst := some _, op := _, type := _, pos := _, after := _, guard := _ }) (v := ?_) rfl (by kernel_rfl) (by kernel_rfl) (by kernel_rfl) (fun _ _ _ h => h) ?_ (by with_reducible assumption) ?_
  rotate_left 1
  focus (refine Or.inl ⟨by rfl, ?_⟩; intro wq hSw; go_simp; try with_reducible rfl)
  try simp only [Act.put, List.setIfInBounds_toArray, List.set_cons_zero, List.set_cons_succ]
  refine wpAnyH_take (i := 1) (oi := { dst := some _, op := _, type := _, pos := _, after := _, guard := _ }) (v := ?_) rfl (by kernel_rfl) (by kernel_rfl) (by kernel_rfl) (fun _ _ _ h => h) ?_ (by with_reducible assumption) ?_
  rotate_left 1
  focus (refine Or.inl ⟨by rfl, ?_⟩; intro wq hSw; go_simp; try with_reducible rfl)
  try simp only [Act.put, List.setIfInBounds_toArray, List.set_cons_zero, List.set_cons_succ]
  refine wpAnyH_take (i := 2) (oi := { dst := some _, op := _, type := _, pos := _, after := _, guard := _ }) (v := ?_) rfl (by kernel_rfl) (by kernel_rfl) (by kernel_rfl) (fun _ _ _ h => h) ?_ (by with_reducible assumption) ?_
  rotate_left 1
  focus (refine Or.inl ⟨by rfl, ?_⟩; intro wq hSw; go_simp; try with_reducible rfl)
  try simp only [Act.put, List.setIfInBounds_toArray, List.set_cons_zero, List.set_cons_succ]
  refine wpAnyH_take (i := 3) (oi := { dst := some _, op := _, type := _, pos := _, after := _, guard := _ }) (v := ?_) rfl (by kernel_rfl) (by kernel_rfl) (by kernel_rfl) (fun _ _ _ h => h) ?_ (by with_reducible assumption) ?_
  rotate_left 1
  focus (refine Or.inl ⟨by rfl, ?_⟩; intro wq hSw; refine exec_load_box ?_ 33 ?_ ?_ hSw.1 _ Tryd.underlying33 sizeGate; rotate_left 1; rfl; rfl)
  try simp only [Act.put, List.setIfInBounds_toArray, List.set_cons_zero, List.set_cons_succ]
  refine wpAnyH_take (i := 4) (oi := { dst := some _, op := _, type := _, pos := _, after := _, guard := _ }) (v := ?_) rfl (by kernel_rfl) (by kernel_rfl) (by kernel_rfl) (fun _ _ _ h => h) ?_ (by with_reducible assumption) ?_
  rotate_left 1
  focus (refine Or.inl ⟨by rfl, ?_⟩; intro wq hSw; refine exec_load_box ?_ 55 ?_ ?_ hSw.2 _ Tryd.underlying55 sizeEvB; rotate_left 1; rfl; rfl)
  try simp only [Act.put, List.setIfInBounds_toArray, List.set_cons_zero, List.set_cons_succ]
  refine wpAnyH_ready (rs := [5]) (by kernel_rfl) (by simp) ?_
  refine AllReadyH.cons rfl (fun KR hKR => ?_) AllReadyH.nil
  go_simp
  refine (refusal_any _ de qu wi ti qa bu le pb pc pj pt nw la ea E.length ec ka K.length kc tu fa F.length fc ra R.length rc tk ac dr E K F R hEx.out hRx.out i d c bd at_ t r n s HBD.out HO.out.is HSM.out).mono ?_
  rintro e w1 ⟨rfl, hb⟩
  replace HX := Lib.hid (HX.out.below hb)
  replace HO := Lib.hid (HO.out.below hb)
  replace HC := Lib.hid (HC.out.below hb)
  replace HL := Lib.hid (HL.out.trans (hb.mono HBW.out))
  replace HBW := Lib.hid (Nat.le_trans HBW.out hb.size)
  clear hb hHeld
  rw [← HCD.out]
  dsimp only
  refine hKR.out _ _ (⟨HX.out, HC.out⟩) (fun hHeld => ?_)
  clear hKR
  try simp only [Act.put, List.setIfInBounds_toArray, List.set_cons_zero, List.set_cons_succ]
  refine wpAnyH_take (i := 6) (oi := { dst := some _, op := _, type := _, pos := _, after := _, guard := _ }) (v := ?_) rfl (by kernel_rfl) (by kernel_rfl) (by kernel_rfl) (fun _ _ _ h => h) ?_ (by with_reducible assumption) ?_
  rotate_left 1
  focus (refine Or.inl ⟨by rfl, ?_⟩; intro wq hSw; go_simp; try with_reducible rfl)
  try simp only [Act.put, List.setIfInBounds_toArray, List.set_cons_zero, List.set_cons_succ]
  refine wpAnyH_done (by kernel_rfl) ?_ _
  clear hHeld
  by_cases h0 : cd = 0
  · subst h0
    have htk := HTK.out rfl
    have htk0 := htk.1
    have htk1 := htk.2
    clear htk
    rw [show errV 0 = .nilIface from rfl]
    go_upto_region 4 with fail
    have hb := below_drew' (Below.refl w1.heap.size w1)
    replace HX := Lib.hid (HX.out.below hb)
    replace HO := Lib.hid (HO.out.below hb)
    replace HC := Lib.hid (HC.out.below hb)
    replace HL := Lib.hid (HL.out.trans (hb.mono HBW.out))
    replace HBW := Lib.hid (Nat.le_trans HBW.out hb.size)
    clear hb
    refine wp_region_held_drew (S := fun w' => Box w' ke 55 [.int .i64 i, .int .i64 d, .int .i64 c, .string bd, .int .i64 at_, .int .i64 t, .int .i64 r, .int .i64 n, .int .i64 s]) (by kernel_rfl) HC.out (fun hHeld => ?_)
    obtain ⟨w5, hw5⟩ : ∃ x, x = w1.drew := ⟨_, rfl⟩
    rw [← hw5] at HX HO HL HBW HC hHeld ⊢
    clear hw5
    refine wpAnyH_take (i := 0) (oi := { dst := some _, op := _, type := _, pos := _, after := _, guard := _ }) (v := ?_) rfl (by kernel_rfl) (by kernel_rfl) (by kernel_rfl) (fun _ _ _ h => h) ?_ (by with_reducible assumption) ?_
    rotate_left 1
    focus (refine Or.inl ⟨by rfl, ?_⟩; intro wq hSw; go_simp; try with_reducible rfl)
    try simp only [Act.put, List.setIfInBounds_toArray, List.set_cons_zero, List.set_cons_succ]
    refine wpAnyH_take (i := 1) (oi := { dst := some _, op := _, type := _, pos := _, after := _, guard := _ }) (v := ?_) rfl (by kernel_rfl) (by kernel_rfl) (by kernel_rfl) (fun _ _ _ h => h) ?_ (by with_reducible assumption) ?_
    rotate_left 1
    focus (refine Or.inl ⟨by rfl, ?_⟩; intro wq hSw; go_simp; try with_reducible rfl)
    try simp only [Act.put, List.setIfInBounds_toArray, List.set_cons_zero, List.set_cons_succ]
    refine wpAnyH_take (i := 2) (oi := { dst := some _, op := _, type := _, pos := _, after := _, guard := _ }) (v := ?_) rfl (by kernel_rfl) (by kernel_rfl) (by kernel_rfl) (fun _ _ _ h => h) ?_ (by with_reducible assumption) ?_
    rotate_left 1
    focus (refine Or.inl ⟨by rfl, ?_⟩; intro wq hSw; go_simp; try with_reducible rfl)
    try simp only [Act.put, List.setIfInBounds_toArray, List.set_cons_zero, List.set_cons_succ]
    refine wpAnyH_take (i := 3) (oi := { dst := some _, op := _, type := _, pos := _, after := _, guard := _ }) (v := ?_) rfl (by kernel_rfl) (by kernel_rfl) (by kernel_rfl) (fun _ _ _ h => h) ?_ (by with_reducible assumption) ?_
    rotate_left 1
    focus (refine Or.inl ⟨by rfl, ?_⟩; intro wq hSw; go_simp; try with_reducible rfl)
    try simp only [Act.put, List.setIfInBounds_toArray, List.set_cons_zero, List.set_cons_succ]
    refine wpAnyH_take (i := 4) (oi := { dst := some _, op := _, type := _, pos := _, after := _, guard := _ }) (v := ?_) rfl (by kernel_rfl) (by kernel_rfl) (by kernel_rfl) (fun _ _ _ h => h) ?_ (by with_reducible assumption) ?_
    rotate_left 1
    focus (refine Or.inl ⟨by rfl, ?_⟩; intro wq hSw; go_simp; try with_reducible rfl)
    try simp only [Act.put, List.setIfInBounds_toArray, List.set_cons_zero, List.set_cons_succ]
    refine wpAnyH_take (i := 6) (oi := { dst := some _, op := _, type := _, pos := _, after := _, guard := _ }) (v := ?_) rfl (by kernel_rfl) (by kernel_rfl) (by kernel_rfl) (fun _ _ _ h => h) ?_ (by with_reducible assumption) ?_
    rotate_left 1
    focus (refine Or.inl ⟨by rfl, ?_⟩; intro wq hSw; refine exec_load_box ?_ 55 ?_ ?_ hSw _ Tryd.underlying55 sizeEvB; rotate_left 1; rfl; rfl)
    try simp only [Act.put, List.setIfInBounds_toArray, List.set_cons_zero, List.set_cons_succ]
    refine wpAnyH_ready (rs := [5, 7]) (by kernel_rfl) (by simp) ?_
    refine AllReadyH.cons rfl (fun KL hKL => ?_) ?_
    · have o13 := HX.out.cell 13 _ rfl
      go_simp
      refine hKL.out _ _ (HC.out) (fun hHeld => ?_)
      clear hKL
      try simp only [Act.put, List.setIfInBounds_toArray, List.set_cons_zero, List.set_cons_succ]
      clear o13
      refine wpAnyH_ready (rs := [7]) (by kernel_rfl) (by simp) ?_
      refine AllReadyH.cons rfl (fun KB hKB => ?_) AllReadyH.nil
      go_simp
      have hb := bOne w5 (.cells #[.int .i64 i, .int .i64 d, .int .i64 c, .string bd, .int .i64 at_, .int .i64 t, .int .i64 r, .int .i64 n, .int .i64 s] 55)
      have HT1 := Lib.hid (ris_ev w5 55 ⟨i, d, c, bd, at_, t, r, n, s⟩)
      replace HX := Lib.hid (HX.out.below hb)
      replace HO := Lib.hid (HO.out.below hb)
      replace HC := Lib.hid (HC.out.below hb)
      replace HL := Lib.hid (HL.out.trans (hb.mono HBW.out))
      replace HBW := Lib.hid (Nat.le_trans HBW.out hb.size)
      clear hb hHeld
      refine hKB.out _ _ (HC.out) (fun hHeld => ?_)
      clear hKB
      try simp only [Act.put, List.setIfInBounds_toArray, List.set_cons_zero, List.set_cons_succ]
      refine wpAnyH_ready (rs := [8]) (by kernel_rfl) (by simp) ?_
      refine AllReadyH.cons rfl (fun KP hKP => ?_) AllReadyH.nil
      have HAP := Lib.hid (app_row (T := 29) (ty := 29) (cap := 1) (len := 1) evS Tryd.underlying29 infoEvent evZ (by decide) (by omega) HO.out.evO HT1.out (flat_ev_one _) (by omega) HBW.out)
      refine Lnk.step_append_run rfl (.tmp 21) (.tmp 23) _ rfl (.slice ea E.length ec) (.slice (some ⟨w5.heap.size, 0, none⟩) 1 1) (by simp [Act.eval, Act.put]) (by simp [Act.eval, Act.put]) HAP.out ?_
      intro v' v3 happ
      obtain ⟨ea2, ec2, rfl⟩ := ROwn.shapeL happ.1 (E.length + 1) (by rw [List.length_append]; rfl)
      have hgz := happ.2.1
      have HOn := Lib.hid (HO.out.setEv hgz happ.1 happ.2.2 (body_app HO.out.body HBD.out))
      have hkb : ∀ z, (Value.slice ea E.length ec).ownBlock = some z → B ≤ z := fun z hz => (World.ownsRow.lt HO.out.evO z hz).1
      have hne : some ke ≠ (Value.slice ea E.length ec).ownBlock := fun e => HNE.out e.symm
      replace HX := Lib.hid (HX.out.grown hgz ((evR_at.2 HO.out.evO).ne_box rfl HX.out rfl))
      replace HC := Lib.hid (HC.out.grown hgz hne)
      replace HL := Lib.hid (HL.out.grown hgz HBW.out (fun z hz => hkb z hz))
      replace HBW := Lib.hid (Nat.le_trans HBW.out hgz.size)
      clear happ hgz hkb hne hHeld HT1 HAP HO
      refine hKP.out _ _ (HC.out) (fun hHeld => ?_)
      clear hKP
      try simp only [Act.put, List.setIfInBounds_toArray, List.set_cons_zero, List.set_cons_succ]
      refine wpAnyH_take (i := 9) (oi := { dst := some _, op := _, type := _, pos := _, after := _, guard := _ }) (v := ?_) rfl (by kernel_rfl) (by kernel_rfl) (by kernel_rfl) (fun _ _ _ h => h) ?_ (by with_reducible assumption) ?_
      rotate_left 1
      focus (refine Or.inl ⟨by rfl, ?_⟩; intro wq hSw; go_simp; try with_reducible rfl)
      try simp only [Act.put, List.setIfInBounds_toArray, List.set_cons_zero, List.set_cons_succ]
      refine wpAnyH_take (i := 10) (oi := { dst := some _, op := _, type := _, pos := _, after := _, guard := _ }) (v := ?_) rfl (by kernel_rfl) (by kernel_rfl) (by kernel_rfl) (fun _ _ _ h => h) ?_ (by with_reducible assumption) ?_
      rotate_left 1
      focus (refine Or.inl ⟨by rfl, ?_⟩; intro wq hSw; go_simp; try with_reducible rfl)
      try simp only [Act.put, List.setIfInBounds_toArray, List.set_cons_zero, List.set_cons_succ]
      refine wpAnyH_take (i := 11) (oi := { dst := some _, op := _, type := _, pos := _, after := _, guard := _ }) (v := ?_) rfl (by kernel_rfl) (by kernel_rfl) (by kernel_rfl) (fun _ _ _ h => h) ?_ (by with_reducible assumption) ?_
      rotate_left 1
      focus (refine Or.inl ⟨by rfl, ?_⟩; intro wq hSw; go_simp; try with_reducible rfl)
      try simp only [Act.put, List.setIfInBounds_toArray, List.set_cons_zero, List.set_cons_succ]
      refine wpAnyH_ready (rs := [12]) (by kernel_rfl) (by simp) ?_
      refine AllReadyH.cons rfl (fun KS hKS => ?_) AllReadyH.nil
      have o13 := HX.out.cell 13 _ rfl
      have g13 := HX.out.frozen 13
      go_simp
      obtain ⟨v4, hV⟩ : ∃ V, V = v3.setCell ⟨kb, 13, none⟩ (.slice ea2 (E.length + 1) ec2) := ⟨_, rfl⟩
      rw [← hV]
      have hg : v3.grownBy v4 (some kb) := by rw [hV]; exact store_grown [.slice ea2 (E.length + 1) ec2] 13 _
      have hne : some ke ≠ some kb := fun e => by injection e; have := HKE.out; omega
      have HO := Lib.hid (GOwn.offbox4 HOn.out HX.out rfl hg)
      replace HX := Lib.hid (show Box v4 kb 49 [.int .i64 de, .int .i64 qu, .int .i64 wi, .int .i64 ti, .int .i64 qa, .int .i64 bu, .int .i64 le, .int .i64 pb, .int .i64 pc, .int .i64 pj, .int .i64 pt, .int .i64 nw, .int .i64 la, .slice ea2 (E.length + 1) ec2, .slice ka K.length kc, .int .i64 tu, .slice fa F.length fc, .slice ra R.length rc, .int .i64 tk, .int .i64 ac, .int .i64 dr] by rw [hV]; exact Box.store [.slice ea2 (E.length + 1) ec2] 13 _ _ HX.out)
      replace HC := Lib.hid (HC.out.grown hg hne)
      replace HL := Lib.hid (HL.out.grown hg HBW.out (fun q e => by cases e; exact HKB.out))
      replace HBW := Lib.hid (Nat.le_trans HBW.out hg.size)
      clear hV hg hne
      clear o13 g13 hHeld HOn
      refine hKS.out _ _ (HC.out) (fun hHeld => ?_)
      clear hKS
      try simp only [Act.put, List.setIfInBounds_toArray, List.set_cons_zero, List.set_cons_succ]
      refine wpAnyH_done (by kernel_rfl) ?_ _
      clear hHeld
      have e0 := HC.out.cell 0 _ rfl
      have o12 := HX.out.cell 12 _ rfl
      have g12 := HX.out.frozen 12
      go_upto_region 6 with fail
      clear e0 o12 g12
      obtain ⟨v5, hV⟩ : ∃ V, V = v4.setCell ⟨kb, 12, none⟩ (.int .i64 i) := ⟨_, rfl⟩
      rw [← hV]
      have hg : v4.grownBy v5 (some kb) := by rw [hV]; exact store_grown [.int .i64 i] 12 _
      have hne : some ke ≠ some kb := fun e => by injection e; have := HKE.out; omega
      replace HO := Lib.hid (GOwn.offbox4 HO.out HX.out rfl hg)
      replace HX := Lib.hid (show Box v5 kb 49 [.int .i64 de, .int .i64 qu, .int .i64 wi, .int .i64 ti, .int .i64 qa, .int .i64 bu, .int .i64 le, .int .i64 pb, .int .i64 pc, .int .i64 pj, .int .i64 pt, .int .i64 nw, .int .i64 i, .slice ea2 (E.length + 1) ec2, .slice ka K.length kc, .int .i64 tu, .slice fa F.length fc, .slice ra R.length rc, .int .i64 tk, .int .i64 ac, .int .i64 dr] by rw [hV]; exact Box.store [.int .i64 i] 12 _ _ HX.out)
      replace HC := Lib.hid (HC.out.grown hg hne)
      replace HL := Lib.hid (HL.out.grown hg HBW.out (fun q e => by cases e; exact HKB.out))
      replace HBW := Lib.hid (Nat.le_trans HBW.out hg.size)
      clear hV hg hne
      have o18 := HX.out.cell 18 _ rfl
      have g18 := HX.out.frozen 18
      go_upto_region 7 with fail
      clear o18 g18
      obtain ⟨v6, hV⟩ : ∃ V, V = v5.setCell ⟨kb, 18, none⟩ (.int .i64 (tk + 1)) := ⟨_, rfl⟩
      rw [← hV]
      have hg : v5.grownBy v6 (some kb) := by rw [hV]; exact store_grown [.int .i64 (tk + 1)] 18 _
      have hne : some ke ≠ some kb := fun e => by injection e; have := HKE.out; omega
      replace HO := Lib.hid (GOwn.offbox4 HO.out HX.out rfl hg)
      replace HX := Lib.hid (show Box v6 kb 49 [.int .i64 de, .int .i64 qu, .int .i64 wi, .int .i64 ti, .int .i64 qa, .int .i64 bu, .int .i64 le, .int .i64 pb, .int .i64 pc, .int .i64 pj, .int .i64 pt, .int .i64 nw, .int .i64 i, .slice ea2 (E.length + 1) ec2, .slice ka K.length kc, .int .i64 tu, .slice fa F.length fc, .slice ra R.length rc, .int .i64 (tk + 1), .int .i64 ac, .int .i64 dr] by rw [hV]; exact Box.store [.int .i64 (tk + 1)] 18 _ _ HX.out)
      replace HC := Lib.hid (HC.out.grown hg hne)
      replace HL := Lib.hid (HL.out.grown hg HBW.out (fun q e => by cases e; exact HKB.out))
      replace HBW := Lib.hid (Nat.le_trans HBW.out hg.size)
      clear hV hg hne
      have e0 := HC.out.cell 0 _ rfl
      go_wp2_with fail
      go_ret2
      exact ⟨rfl, ea2, ec2, HX.out, HO.out, HL.out⟩
    · refine AllReadyH.cons rfl (fun KB hKB => ?_) AllReadyH.nil
      go_simp
      have hb := bOne w5 (.cells #[.int .i64 i, .int .i64 d, .int .i64 c, .string bd, .int .i64 at_, .int .i64 t, .int .i64 r, .int .i64 n, .int .i64 s] 55)
      have HT1 := Lib.hid (ris_ev w5 55 ⟨i, d, c, bd, at_, t, r, n, s⟩)
      replace HX := Lib.hid (HX.out.below hb)
      replace HO := Lib.hid (HO.out.below hb)
      replace HC := Lib.hid (HC.out.below hb)
      replace HL := Lib.hid (HL.out.trans (hb.mono HBW.out))
      replace HBW := Lib.hid (Nat.le_trans HBW.out hb.size)
      clear hb hHeld
      refine hKB.out _ _ (HC.out) (fun hHeld => ?_)
      clear hKB
      try simp only [Act.put, List.setIfInBounds_toArray, List.set_cons_zero, List.set_cons_succ]
      refine wpAnyH_ready (rs := [5]) (by kernel_rfl) (by simp) ?_
      refine AllReadyH.cons rfl (fun KL hKL => ?_) AllReadyH.nil
      have o13 := HX.out.cell 13 _ rfl
      go_simp
      refine hKL.out _ _ (HC.out) (fun hHeld => ?_)
      clear hKL
      try simp only [Act.put, List.setIfInBounds_toArray, List.set_cons_zero, List.set_cons_succ]
      clear o13
      refine wpAnyH_ready (rs := [8]) (by kernel_rfl) (by simp) ?_
      refine AllReadyH.cons rfl (fun KP hKP => ?_) AllReadyH.nil
      have HAP := Lib.hid (app_row (T := 29) (ty := 29) (cap := 1) (len := 1) evS Tryd.underlying29 infoEvent evZ (by decide) (by omega) HO.out.evO HT1.out (flat_ev_one _) (by omega) HBW.out)
      refine Lnk.step_append_run rfl (.tmp 21) (.tmp 23) _ rfl (.slice ea E.length ec) (.slice (some ⟨w5.heap.size, 0, none⟩) 1 1) (by simp [Act.eval, Act.put]) (by simp [Act.eval, Act.put]) HAP.out ?_
      intro v' v3 happ
      obtain ⟨ea2, ec2, rfl⟩ := ROwn.shapeL happ.1 (E.length + 1) (by rw [List.length_append]; rfl)
      have hgz := happ.2.1
      have HOn := Lib.hid (HO.out.setEv hgz happ.1 happ.2.2 (body_app HO.out.body HBD.out))
      have hkb : ∀ z, (Value.slice ea E.length ec).ownBlock = some z → B ≤ z := fun z hz => (World.ownsRow.lt HO.out.evO z hz).1
      have hne : some ke ≠ (Value.slice ea E.length ec).ownBlock := fun e => HNE.out e.symm
      replace HX := Lib.hid (HX.out.grown hgz ((evR_at.2 HO.out.evO).ne_box rfl HX.out rfl))
      replace HC := Lib.hid (HC.out.grown hgz hne)
      replace HL := Lib.hid (HL.out.grown hgz HBW.out (fun z hz => hkb z hz))
      replace HBW := Lib.hid (Nat.le_trans HBW.out hgz.size)
      clear happ hgz hkb hne hHeld HT1 HAP HO
      refine hKP.out _ _ (HC.out) (fun hHeld => ?_)
      clear hKP
      try simp only [Act.put, List.setIfInBounds_toArray, List.set_cons_zero, List.set_cons_succ]
      refine wpAnyH_take (i := 9) (oi := { dst := some _, op := _, type := _, pos := _, after := _, guard := _ }) (v := ?_) rfl (by kernel_rfl) (by kernel_rfl) (by kernel_rfl) (fun _ _ _ h => h) ?_ (by with_reducible assumption) ?_
      rotate_left 1
      focus (refine Or.inl ⟨by rfl, ?_⟩; intro wq hSw; go_simp; try with_reducible rfl)
      try simp only [Act.put, List.setIfInBounds_toArray, List.set_cons_zero, List.set_cons_succ]
      refine wpAnyH_take (i := 10) (oi := { dst := some _, op := _, type := _, pos := _, after := _, guard := _ }) (v := ?_) rfl (by kernel_rfl) (by kernel_rfl) (by kernel_rfl) (fun _ _ _ h => h) ?_ (by with_reducible assumption) ?_
      rotate_left 1
      focus (refine Or.inl ⟨by rfl, ?_⟩; intro wq hSw; go_simp; try with_reducible rfl)
      try simp only [Act.put, List.setIfInBounds_toArray, List.set_cons_zero, List.set_cons_succ]
      refine wpAnyH_take (i := 11) (oi := { dst := some _, op := _, type := _, pos := _, after := _, guard := _ }) (v := ?_) rfl (by kernel_rfl) (by kernel_rfl) (by kernel_rfl) (fun _ _ _ h => h) ?_ (by with_reducible assumption) ?_
      rotate_left 1
      focus (refine Or.inl ⟨by rfl, ?_⟩; intro wq hSw; go_simp; try with_reducible rfl)
      try simp only [Act.put, List.setIfInBounds_toArray, List.set_cons_zero, List.set_cons_succ]
      refine wpAnyH_ready (rs := [12]) (by kernel_rfl) (by simp) ?_
      refine AllReadyH.cons rfl (fun KS hKS => ?_) AllReadyH.nil
      have o13 := HX.out.cell 13 _ rfl
      have g13 := HX.out.frozen 13
      go_simp
      obtain ⟨v4, hV⟩ : ∃ V, V = v3.setCell ⟨kb, 13, none⟩ (.slice ea2 (E.length + 1) ec2) := ⟨_, rfl⟩
      rw [← hV]
      have hg : v3.grownBy v4 (some kb) := by rw [hV]; exact store_grown [.slice ea2 (E.length + 1) ec2] 13 _
      have hne : some ke ≠ some kb := fun e => by injection e; have := HKE.out; omega
      have HO := Lib.hid (GOwn.offbox4 HOn.out HX.out rfl hg)
      replace HX := Lib.hid (show Box v4 kb 49 [.int .i64 de, .int .i64 qu, .int .i64 wi, .int .i64 ti, .int .i64 qa, .int .i64 bu, .int .i64 le, .int .i64 pb, .int .i64 pc, .int .i64 pj, .int .i64 pt, .int .i64 nw, .int .i64 la, .slice ea2 (E.length + 1) ec2, .slice ka K.length kc, .int .i64 tu, .slice fa F.length fc, .slice ra R.length rc, .int .i64 tk, .int .i64 ac, .int .i64 dr] by rw [hV]; exact Box.store [.slice ea2 (E.length + 1) ec2] 13 _ _ HX.out)
      replace HC := Lib.hid (HC.out.grown hg hne)
      replace HL := Lib.hid (HL.out.grown hg HBW.out (fun q e => by cases e; exact HKB.out))
      replace HBW := Lib.hid (Nat.le_trans HBW.out hg.size)
      clear hV hg hne
      clear o13 g13 hHeld HOn
      refine hKS.out _ _ (HC.out) (fun hHeld => ?_)
      clear hKS
      try simp only [Act.put, List.setIfInBounds_toArray, List.set_cons_zero, List.set_cons_succ]
      refine wpAnyH_done (by kernel_rfl) ?_ _
      clear hHeld
      have e0 := HC.out.cell 0 _ rfl
      have o12 := HX.out.cell 12 _ rfl
      have g12 := HX.out.frozen 12
      go_upto_region 6 with fail
      clear e0 o12 g12
      obtain ⟨v5, hV⟩ : ∃ V, V = v4.setCell ⟨kb, 12, none⟩ (.int .i64 i) := ⟨_, rfl⟩
      rw [← hV]
      have hg : v4.grownBy v5 (some kb) := by rw [hV]; exact store_grown [.int .i64 i] 12 _
      have hne : some ke ≠ some kb := fun e => by injection e; have := HKE.out; omega
      replace HO := Lib.hid (GOwn.offbox4 HO.out HX.out rfl hg)
      replace HX := Lib.hid (show Box v5 kb 49 [.int .i64 de, .int .i64 qu, .int .i64 wi, .int .i64 ti, .int .i64 qa, .int .i64 bu, .int .i64 le, .int .i64 pb, .int .i64 pc, .int .i64 pj, .int .i64 pt, .int .i64 nw, .int .i64 i, .slice ea2 (E.length + 1) ec2, .slice ka K.length kc, .int .i64 tu, .slice fa F.length fc, .slice ra R.length rc, .int .i64 tk, .int .i64 ac, .int .i64 dr] by rw [hV]; exact Box.store [.int .i64 i] 12 _ _ HX.out)
      replace HC := Lib.hid (HC.out.grown hg hne)
      replace HL := Lib.hid (HL.out.grown hg HBW.out (fun q e => by cases e; exact HKB.out))
      replace HBW := Lib.hid (Nat.le_trans HBW.out hg.size)
      clear hV hg hne
      have o18 := HX.out.cell 18 _ rfl
      have g18 := HX.out.frozen 18
      go_upto_region 7 with fail
      clear o18 g18
      obtain ⟨v6, hV⟩ : ∃ V, V = v5.setCell ⟨kb, 18, none⟩ (.int .i64 (tk + 1)) := ⟨_, rfl⟩
      rw [← hV]
      have hg : v5.grownBy v6 (some kb) := by rw [hV]; exact store_grown [.int .i64 (tk + 1)] 18 _
      have hne : some ke ≠ some kb := fun e => by injection e; have := HKE.out; omega
      replace HO := Lib.hid (GOwn.offbox4 HO.out HX.out rfl hg)
      replace HX := Lib.hid (show Box v6 kb 49 [.int .i64 de, .int .i64 qu, .int .i64 wi, .int .i64 ti, .int .i64 qa, .int .i64 bu, .int .i64 le, .int .i64 pb, .int .i64 pc, .int .i64 pj, .int .i64 pt, .int .i64 nw, .int .i64 i, .slice ea2 (E.length + 1) ec2, .slice ka K.length kc, .int .i64 tu, .slice fa F.length fc, .slice ra R.length rc, .int .i64 (tk + 1), .int .i64 ac, .int .i64 dr] by rw [hV]; exact Box.store [.int .i64 (tk + 1)] 18 _ _ HX.out)
      replace HC := Lib.hid (HC.out.grown hg hne)
      replace HL := Lib.hid (HL.out.grown hg HBW.out (fun q e => by cases e; exact HKB.out))
      replace HBW := Lib.hid (Nat.le_trans HBW.out hg.size)
      clear hV hg hne
      have e0 := HC.out.cell 0 _ rfl
      go_wp2_with fail
      go_ret2
      exact ⟨rfl, ea2, ec2, HX.out, HO.out, HL.out⟩
  · rw [show errV cd = .iface 81 (.int .i64 cd) from if_neg h0]
    go_wp2_with fail
    go_ret2
    exact ⟨fun _ => ⟨(by first | rfl | (unfold errV; rw [if_neg h0]; rfl)), HX.out, HO.out, HL.out⟩, fun h => absurd h h0⟩

end Go.Proofs.YtkndpkingmemoaaDoor.Gat
namespace Go.Proofs.YtkndpkingmemoaaDoor.Gat
open Go.RowKit
open Lnk (bOne bAfter IOwn IIs YOwn YIs below_keep below_drew' bcell low_after low_alloc grown_of_below)
set_option linter.unusedVariables false
set_option linter.unusedSimpArgs false

theorem gok_tk {de qu wi ti qa bu le pb pc pj pt nw la : Int} {en kn : Nat} {tu : Int} {fn rn : Nat} {tk ac dr : Int} {E : List Ev} {K : List Lk} {F R : List Int} (h : gokB de qu wi ti qa bu le pb pc pj pt nw la en kn tu fn rn tk ac dr E K F R = true) : 0 ≤ tk ∧ tk ≤ 9999 := by
  have h1 := (gokB_true h).2.2.2.2.2.2.2
  unfold toP at h1
  omega

set_option maxRecDepth 100000 in
set_option maxHeartbeats 8000000 in
theorem implSubmit_any (w : World) (de qu wi ti qa bu le pb pc pj pt nw la : Int) (ea : Option Addr) (en ec : Nat) (ka : Option Addr) (kn kc : Nat) (tu : Int) (fa : Option Addr) (fn fc : Nat) (ra : Option Addr) (rn rc : Nat) (tk ac dr : Int) (E : List Ev) (K : List Lk) (F R : List Int) (d c : Int) (bd : ByteArray) (t : Int) (hE : ∀ e ∈ E, (Lit.int .i64 e.i).wf = true) (hR : ∀ x ∈ R, (Lit.int .i64 x).wf = true) (h : GIs w.heap.size w ea en ka kn fa fn ra rn E K F R) (hs : Small en kn fn rn K) (hbd : bd.size ≤ maxLen) (hg : ErrT w) :
    Calls Tryd.prog 10 #[.agg #[.int .i64 de, .int .i64 qu, .int .i64 wi, .int .i64 ti, .int .i64 qa, .int .i64 bu, .int .i64 le, .int .i64 pb, .int .i64 pc, .int .i64 pj, .int .i64 pt, .int .i64 nw, .int .i64 la, .slice ea en ec, .slice ka kn kc, .int .i64 tu, .slice fa fn fc, .slice ra rn rc, .int .i64 tk, .int .i64 ac, .int .i64 dr], .int .i64 d, .int .i64 c, .string bd, .int .i64 t] w fun e w' => GEnd2 w w' de qu wi ti qa bu le pb pc pj pt nw (sel (subC (gokB de qu wi ti qa bu le pb pc pj pt nw la en kn tu fn rn tk ac dr E K F R) nw de d c bd.size pt t qu en la E == 0) (la + 1) la) tu (sel (subC (gokB de qu wi ti qa bu le pb pc pj pt nw la en kn tu fn rn tk ac dr E K F R) nw de d c bd.size pt t qu en la E == 0) (tk + 1) tk) ac dr (sel (subC (gokB de qu wi ti qa bu le pb pc pj pt nw la en kn tu fn rn tk ac dr E K F R) nw de d c bd.size pt t qu en la E == 0) (E ++ [⟨la + 1, d, c, bd, nw, t, 0, nw, 0⟩]) E) K F R (sel (subC (gokB de qu wi ti qa bu le pb pc pj pt nw la en kn tu fn rn tk ac dr E K F R) nw de d c bd.size pt t qu en la E == 0) (la + 1) 0) (subC (gokB de qu wi ti qa bu le pb pc pj pt nw la en kn tu fn rn tk ac dr E K F R) nw de d c bd.size pt t qu en la E) e := by
  obtain rfl : E.length = en := h.ev.row.hlen
  obtain rfl : K.length = kn := h.lk.hlen
  obtain rfl : F.length = fn := h.lf.hlen
  obtain rfl : R.length = rn := h.lt.hlen
  obtain ⟨W0, hW0⟩ : ∃ W, W = (w.alloc (.cells #[.int .i64 de, .int .i64 qu, .int .i64 wi, .int .i64 ti, .int .i64 qa, .int .i64 bu, .int .i64 le, .int .i64 pb, .int .i64 pc, .int .i64 pj, .int .i64 pt, .int .i64 nw, .int .i64 la, .slice ea E.length ec, .slice ka K.length kc, .int .i64 tu, .slice fa F.length fc, .slice ra R.length rc, .int .i64 tk, .int .i64 ac, .int .i64 dr] 33)).alloc (.cells #[.int .i64 0, .int .i64 0, .int .i64 0, .int .i64 0, .int .i64 0, .int .i64 0, .int .i64 0, .int .i64 0, .int .i64 0, .int .i64 0, .int .i64 0, .int .i64 0, .int .i64 0, .slice none 0 0, .slice none 0 0, .int .i64 0, .slice none 0 0, .slice none 0 0, .int .i64 0, .int .i64 0, .int .i64 0] 33) := ⟨_, rfl⟩
  have hb01 := bOne w (.cells #[.int .i64 de, .int .i64 qu, .int .i64 wi, .int .i64 ti, .int .i64 qa, .int .i64 bu, .int .i64 le, .int .i64 pb, .int .i64 pc, .int .i64 pj, .int .i64 pt, .int .i64 nw, .int .i64 la, .slice ea E.length ec, .slice ka K.length kc, .int .i64 tu, .slice fa F.length fc, .slice ra R.length rc, .int .i64 tk, .int .i64 ac, .int .i64 dr] 33)
  have hb02 := bOne (w.alloc (.cells #[.int .i64 de, .int .i64 qu, .int .i64 wi, .int .i64 ti, .int .i64 qa, .int .i64 bu, .int .i64 le, .int .i64 pb, .int .i64 pc, .int .i64 pj, .int .i64 pt, .int .i64 nw, .int .i64 la, .slice ea E.length ec, .slice ka K.length kc, .int .i64 tu, .slice fa F.length fc, .slice ra R.length rc, .int .i64 tk, .int .i64 ac, .int .i64 dr] 33)) (.cells #[.int .i64 0, .int .i64 0, .int .i64 0, .int .i64 0, .int .i64 0, .int .i64 0, .int .i64 0, .int .i64 0, .int .i64 0, .int .i64 0, .int .i64 0, .int .i64 0, .int .i64 0, .slice none 0 0, .slice none 0 0, .int .i64 0, .slice none 0 0, .slice none 0 0, .int .i64 0, .int .i64 0, .int .i64 0] 33)
  have HA : Hid (Box W0 w.heap.size 33 [.int .i64 de, .int .i64 qu, .int .i64 wi, .int .i64 ti, .int .i64 qa, .int .i64 bu, .int .i64 le, .int .i64 pb, .int .i64 pc, .int .i64 pj, .int .i64 pt, .int .i64 nw, .int .i64 la, .slice ea E.length ec, .slice ka K.length kc, .int .i64 tu, .slice fa F.length fc, .slice ra R.length rc, .int .i64 tk, .int .i64 ac, .int .i64 dr]) := Lib.hid (by rw [hW0]; exact (Box.new w [.int .i64 de, .int .i64 qu, .int .i64 wi, .int .i64 ti, .int .i64 qa, .int .i64 bu, .int .i64 le, .int .i64 pb, .int .i64 pc, .int .i64 pj, .int .i64 pt, .int .i64 nw, .int .i64 la, .slice ea E.length ec, .slice ka K.length kc, .int .i64 tu, .slice fa F.length fc, .slice ra R.length rc, .int .i64 tk, .int .i64 ac, .int .i64 dr] 33).below hb02)
  have HR : Hid (Box W0 (w.heap.size + 1) 33 [.int .i64 0, .int .i64 0, .int .i64 0, .int .i64 0, .int .i64 0, .int .i64 0, .int .i64 0, .int .i64 0, .int .i64 0, .int .i64 0, .int .i64 0, .int .i64 0, .int .i64 0, .slice none 0 0, .slice none 0 0, .int .i64 0, .slice none 0 0, .slice none 0 0, .int .i64 0, .int .i64 0, .int .i64 0]) := Lib.hid (by
    rw [hW0]
    have := Box.new (w.alloc (.cells #[.int .i64 de, .int .i64 qu, .int .i64 wi, .int .i64 ti, .int .i64 qa, .int .i64 bu, .int .i64 le, .int .i64 pb, .int .i64 pc, .int .i64 pj, .int .i64 pt, .int .i64 nw, .int .i64 la, .slice ea E.length ec, .slice ka K.length kc, .int .i64 tu, .slice fa F.length fc, .slice ra R.length rc, .int .i64 tk, .int .i64 ac, .int .i64 dr] 33)) [.int .i64 0, .int .i64 0, .int .i64 0, .int .i64 0, .int .i64 0, .int .i64 0, .int .i64 0, .int .i64 0, .int .i64 0, .int .i64 0, .int .i64 0, .int .i64 0, .int .i64 0, .slice none 0 0, .slice none 0 0, .int .i64 0, .slice none 0 0, .slice none 0 0, .int .i64 0, .int .i64 0, .int .i64 0] 33
    simpa using this)
  have HL : Hid (Below w.heap.size w W0) := Lib.hid (by rw [hW0]; exact hb01.trans (hb02.mono (by simp)))
  have HSZ := Lib.hid (show w.heap.size + 2 ≤ W0.heap.size by rw [hW0]; simp)
  have hz0 : 0 < w.heap.size := World.block_lt_of_cell? _ _ hg
  have HWE := Lib.hid hW0
  have HG := Lib.hid h
  have HSM := Lib.hid hs
  have HE := Lib.hid hE
  have HRW := Lib.hid hR
  have HEG := Lib.hid (show ErrT W0 from (HL.out.cell (p := ⟨0, 0, none⟩) hz0).trans hg)
  obtain ⟨cd, hcd⟩ : ∃ x, x = subC (gokB de qu wi ti qa bu le pb pc pj pt nw la E.length K.length tu F.length R.length tk ac dr E K F R) nw de d c bd.size pt t qu E.length la E := ⟨_, rfl⟩
  rw [← hcd]
  have HCD := Lib.hid hcd
  have HTK := Lib.hid (show cd = 0 → 0 ≤ tk ∧ tk ≤ 9999 from fun h0 => gok_tk (subC_ok (hcd.symm.trans h0)))
  have HLA := Lib.hid (show cd = 0 → 0 ≤ la ∧ la ≤ 9999 from fun h0 => (gokB_true (subC_ok (hcd.symm.trans h0))).2.2.1)
  clear hW0 hb01 hb02 h hs hE hR hcd hg
  go_enter Tryd.func10, Tryd.ntmps10
  go_upto_region 1 with fail
  rw [← HWE.out]
  clear HWE
  obtain ⟨B, hB⟩ : ∃ B, B = W0.heap.size := ⟨_, rfl⟩
  have HB1 := Lib.hid (show w.heap.size + 2 ≤ B by rw [hB]; exact HSZ.out)
  have HB0 := Lib.hid (show 0 < B by rw [hB]; have := HSZ.out; omega)
  go_wp2_with (first | (refine wpList_load_box rfl _ 33 rfl rfl HA.out _ Tryd.underlying33 sizeGate ?_) | fail)
  refine (copyGate_any _ de qu wi ti qa bu le pb pc pj pt nw la ea E.length ec ka K.length kc tu fa F.length fc ra R.length rc tk ac dr E K F R (HG.out.here HL.out) HSM.out).mono ?_
  rintro e w1 ⟨⟨ea1, ec1, ka1, kc1, fa1, fc1, ra1, rc1, vs, rfl, ho⟩, hb⟩
  rw [← hB] at ho
  have HO := Lib.hid ho
  have HBW := Lib.hid (show B ≤ w1.heap.size by rw [hB]; exact hb.size)
  replace HA := Lib.hid (HA.out.below hb)
  replace HR := Lib.hid (HR.out.below hb)
  replace HL := Lib.hid (low_after HL.out hb)
  replace HEG := Lib.hid (HEG.out.below hb)
  clear hb ho hB HSZ
  obtain ⟨kb, hkb⟩ : ∃ k, k = w1.heap.size := ⟨_, rfl⟩
  go_upto_region 2 with (first | (refine wpList_store_box rfl _ _ 49 rfl rfl [.int .i64 de, .int .i64 qu, .int .i64 wi, .int .i64 ti, .int .i64 qa, .int .i64 bu, .int .i64 le, .int .i64 pb, .int .i64 pc, .int .i64 pj, .int .i64 pt, .int .i64 nw, .int .i64 la, .slice ea1 E.length ec1, .slice ka1 K.length kc1, .int .i64 tu, .slice fa1 F.length fc1, .slice ra1 R.length rc1, .int .i64 tk, .int .i64 ac, .int .i64 dr] rfl (Box.new _ [.int .i64 0, .int .i64 0, .int .i64 0, .int .i64 0, .int .i64 0, .int .i64 0, .int .i64 0, .int .i64 0, .int .i64 0, .int .i64 0, .int .i64 0, .int .i64 0, .int .i64 0, .slice none 0 0, .slice none 0 0, .int .i64 0, .slice none 0 0, .slice none 0 0, .int .i64 0, .int .i64 0, .int .i64 0] 49) sizeKeep rfl rfl ?_; intro V0 hXb hgV hlV; have HX := Lib.hid hXb; have HBV := Lib.hid (hlV w1.heap.size w1 (Nat.le_refl _) (bOne w1 _)); clear hXb hgV hlV) | fail)
  simp only [Act.put]
  rw [← hkb] at HX ⊢
  have HKB := Lib.hid (show B ≤ kb by rw [hkb]; exact HBW.out)
  clear hkb
  obtain ⟨w2, hw2⟩ : ∃ x, x = V0 := ⟨_, rfl⟩
  rw [← hw2] at HX HBV ⊢
  clear hw2
  replace HA := Lib.hid (HA.out.below HBV.out)
  replace HR := Lib.hid (HR.out.below HBV.out)
  replace HL := Lib.hid (low_after HL.out HBV.out)
  replace HO := Lib.hid (HO.out.below HBV.out)
  replace HEG := Lib.hid (HEG.out.below HBV.out)
  replace HBW := Lib.hid (Nat.le_trans HBW.out HBV.out.size)
  clear HBV
  by_cases h0 : cd = 0
  · subst h0
    have hla := HLA.out rfl
    have hwl : IntKind.i64.wrap (la + 1) = la + 1 := IntWalk.i64_in _ (by omega)
    have a12 := HA.out.cell 12 _ rfl
    have a11 := HA.out.cell 11 _ rfl
    go_wp2_with fail
    clear a12 a11
    refine (take_any w2 B kb de qu wi ti qa bu le pb pc pj pt nw la ea1 ec1 ka1 kc1 tu fa1 fc1 ra1 rc1 tk ac dr vs E K F R HE.out HRW.out _ d c bd nw t 0 nw 0 hbd HX.out HKB.out HO.out HBW.out HSM.out (by rw [← HCD.out]; first | exact HTK.out | exact fun _ => HTK.out trivial)).mono ?_
    rintro e w3 hpost
    rw [← HCD.out] at hpost
    obtain ⟨ea2, ec2, rfl, hx, ho, hl⟩ := hpost.2 rfl
    clear hpost
    replace HEG := Lib.hid (show ErrT w3 from (hl.cell (p := ⟨0, 0, none⟩) (by have := HB0.out; exact this)).trans HEG.out)
    replace HR := Lib.hid (HR.out.low hl (by have := HB1.out; omega))
    replace HL := Lib.hid (HL.out.trans (hl.mono (by have := HB1.out; omega)))
    replace HBW := Lib.hid (Nat.le_trans HBW.out hl.size)
    replace HX := Lib.hid hx
    replace HO := Lib.hid ho
    clear hx ho hl
    go_upto_region 3 with fail
    have hb := below_drew' (Below.refl w3.heap.size w3)
    replace HR := Lib.hid (HR.out.below hb)
    replace HX := Lib.hid (HX.out.below hb)
    replace HO := Lib.hid (HO.out.below hb)
    replace HL := Lib.hid (low_after HL.out hb)
    replace HBW := Lib.hid (Nat.le_trans HBW.out hb.size)
    replace HEG := Lib.hid (HEG.out.below hb)
    clear hb
    refine wp_region_held_drew (S := fun w' => Box w' kb 49 [.int .i64 de, .int .i64 qu, .int .i64 wi, .int .i64 ti, .int .i64 qa, .int .i64 bu, .int .i64 le, .int .i64 pb, .int .i64 pc, .int .i64 pj, .int .i64 pt, .int .i64 nw, .int .i64 (la + 1), .slice ea2 (E.length + 1) ec2, .slice ka1 K.length kc1, .int .i64 tu, .slice fa1 F.length fc1, .slice ra1 R.length rc1, .int .i64 (tk + 1), .int .i64 ac, .int .i64 dr]) (by kernel_rfl) HX.out (fun hHeld => ?_)
    obtain ⟨wd, hwd⟩ : ∃ x, x = w3.drew := ⟨_, rfl⟩
    rw [← hwd] at HR HX HO HL HBW HEG hHeld ⊢
    clear hwd
    refine wpAnyH_take (i := 0) (oi := { dst := some _, op := _, type := _, pos := _, after := _, guard := _ }) (v := ?_) rfl (by kernel_rfl) (by kernel_rfl) (by kernel_rfl) (fun _ _ _ h => h) ?_ (by with_reducible assumption) ?_
    rotate_left 1
    focus (refine Or.inl ⟨by rfl, ?_⟩; intro wq hSw; go_simp; try with_reducible rfl)
    try simp only [Act.put, List.setIfInBounds_toArray, List.set_cons_zero, List.set_cons_succ]
    refine wpAnyH_take (i := 1) (oi := { dst := some _, op := _, type := _, pos := _, after := _, guard := _ }) (v := ?_) rfl (by kernel_rfl) (by kernel_rfl) (by kernel_rfl) (fun _ _ _ h => h) ?_ (by with_reducible assumption) ?_
    rotate_left 1
    focus (refine Or.inl ⟨by rfl, ?_⟩; intro wq hSw; refine exec_load_box ?_ 33 ?_ ?_ hSw _ Tryd.underlying33 sizeGate; rotate_left 1; rfl; rfl)
    try simp only [Act.put, List.setIfInBounds_toArray, List.set_cons_zero, List.set_cons_succ]
    refine wpAnyH_take (i := 2) (oi := { dst := some _, op := _, type := _, pos := _, after := _, guard := _ }) (v := ?_) rfl (by kernel_rfl) (by kernel_rfl) (by kernel_rfl) (fun _ _ _ h => h) ?_ (by with_reducible assumption) ?_
    rotate_left 1
    focus (refine Or.inl ⟨by rfl, ?_⟩; intro wq hSw; go_simp; try with_reducible rfl)
    try simp only [Act.put, List.setIfInBounds_toArray, List.set_cons_zero, List.set_cons_succ]
    refine wpAnyH_take (i := 3) (oi := { dst := some _, op := _, type := _, pos := _, after := _, guard := _ }) (v := ?_) rfl (by kernel_rfl) (by kernel_rfl) (by kernel_rfl) (fun _ _ _ h => h) ?_ (by with_reducible assumption) ?_
    rotate_left 1
    focus (refine Or.inl ⟨by rfl, ?_⟩; intro wq hSw; go_simp; try with_reducible rfl)
    try simp only [Act.put, List.setIfInBounds_toArray, List.set_cons_zero, List.set_cons_succ]
    refine wpAnyH_ready (rs := [4]) (by kernel_rfl) (by simp) ?_
    refine AllReadyH.cons rfl (fun KC hKC => ?_) AllReadyH.nil
    go_simp
    refine (codeOf_any _ 0 HEG.out).mono ?_
    rintro e w4 ⟨rfl, hb⟩
    replace HR := Lib.hid (HR.out.below hb)
    replace HX := Lib.hid (HX.out.below hb)
    replace HO := Lib.hid (HO.out.below hb)
    replace HL := Lib.hid (low_after HL.out hb)
    replace HBW := Lib.hid (Nat.le_trans HBW.out hb.size)
    replace HEG := Lib.hid (HEG.out.below hb)
    clear hb hHeld
    dsimp only
    refine hKC.out _ _ (HX.out) (fun hHeld => ?_)
    clear hKC
    try simp only [Act.put, List.setIfInBounds_toArray, List.set_cons_zero, List.set_cons_succ]
    refine wpAnyH_ready (rs := [5]) (by kernel_rfl) (by simp) ?_
    refine AllReadyH.cons rfl (fun KS hKS => ?_) AllReadyH.nil
    refine step_store_box rfl _ _ 33 rfl rfl [.int .i64 de, .int .i64 qu, .int .i64 wi, .int .i64 ti, .int .i64 qa, .int .i64 bu, .int .i64 le, .int .i64 pb, .int .i64 pc, .int .i64 pj, .int .i64 pt, .int .i64 nw, .int .i64 (la + 1), .slice ea2 (E.length + 1) ec2, .slice ka1 K.length kc1, .int .i64 tu, .slice fa1 F.length fc1, .slice ra1 R.length rc1, .int .i64 (tk + 1), .int .i64 ac, .int .i64 dr] rfl HR.out sizeGate rfl rfl ?_
    intro V hXb hgV hlV
    replace HX := Lib.hid (HX.out.grown hgV (fun e => by injection e; have := HB1.out; have := HKB.out; omega))
    clear hHeld
    refine hKS.out _ _ (HX.out) (fun hHeld => ?_)
    clear hKS
    try simp only [Act.put, List.setIfInBounds_toArray, List.set_cons_zero, List.set_cons_succ]
    refine wpAnyH_take (i := 6) (oi := { dst := some _, op := _, type := _, pos := _, after := _, guard := _ }) (v := ?_) rfl (by kernel_rfl) (by kernel_rfl) (by kernel_rfl) (fun _ _ _ h => h) ?_ (by with_reducible assumption) ?_
    rotate_left 1
    focus (refine Or.inl ⟨by rfl, ?_⟩; intro wq hSw; go_simp; try with_reducible rfl)
    try simp only [Act.put, List.setIfInBounds_toArray, List.set_cons_zero, List.set_cons_succ]
    refine wpAnyH_take (i := 7) (oi := { dst := some _, op := _, type := _, pos := _, after := _, guard := _ }) (v := ?_) rfl (by kernel_rfl) (by kernel_rfl) (by kernel_rfl) (fun _ _ _ h => h) ?_ (by with_reducible assumption) ?_
    rotate_left 1
    focus (refine Or.inl ⟨by rfl, ?_⟩; intro wq hSw; go_simp; try with_reducible rfl)
    try simp only [Act.put, List.setIfInBounds_toArray, List.set_cons_zero, List.set_cons_succ]
    refine wpAnyH_done (by kernel_rfl) ?_ _
    clear hHeld
    go_wp2_with fail
    exact bodyPost_ret (v := .tuple #[.agg #[.int .i64 de, .int .i64 qu, .int .i64 wi, .int .i64 ti, .int .i64 qa, .int .i64 bu, .int .i64 le, .int .i64 pb, .int .i64 pc, .int .i64 pj, .int .i64 pt, .int .i64 nw, .int .i64 (la + 1), .slice ea2 (E.length + 1) ec2, .slice ka1 K.length kc1, .int .i64 tu, .slice fa1 F.length fc1, .slice ra1 R.length rc1, .int .i64 (tk + 1), .int .i64 ac, .int .i64 dr], .int .i64 (la + 1), .int .i64 0]) (results_box3 _ Tryd.results10 rfl rfl rfl hXb _ Tryd.underlying33 sizeGate) rfl ⟨⟨ea2, ec2, ka1, kc1, fa1, fc1, ra1, rc1, vs, by simp [sel], by have h1 := (HO.out.low hgV (by have := HB1.out; omega)).base (B' := w.heap.size) (by have := HB1.out; omega); simpa [sel] using h1⟩, hlV w.heap.size w (by omega) HL.out⟩
  · have HS0 := Lib.hid (show (cd == 0) = false by simpa using h0)
    have a12 := HA.out.cell 12 _ rfl
    have a11 := HA.out.cell 11 _ rfl
    go_wp2_with fail
    clear a12 a11
    refine (take_any w2 B kb de qu wi ti qa bu le pb pc pj pt nw la ea1 ec1 ka1 kc1 tu fa1 fc1 ra1 rc1 tk ac dr vs E K F R HE.out HRW.out _ d c bd nw t 0 nw 0 hbd HX.out HKB.out HO.out HBW.out HSM.out (by rw [← HCD.out]; first | exact HTK.out | exact fun _ => HTK.out trivial)).mono ?_
    rintro e w3 hpost
    rw [← HCD.out] at hpost
    obtain ⟨rfl, hx, ho, hl⟩ := hpost.1 h0
    clear hpost
    replace HEG := Lib.hid (show ErrT w3 from (hl.cell (p := ⟨0, 0, none⟩) (by have := HB0.out; exact this)).trans HEG.out)
    replace HR := Lib.hid (HR.out.low hl (by have := HB1.out; omega))
    replace HL := Lib.hid (HL.out.trans (hl.mono (by have := HB1.out; omega)))
    replace HBW := Lib.hid (Nat.le_trans HBW.out hl.size)
    replace HX := Lib.hid hx
    replace HO := Lib.hid ho
    clear hx ho hl
    go_upto_region 3 with fail
    have hb := below_drew' (Below.refl w3.heap.size w3)
    replace HR := Lib.hid (HR.out.below hb)
    replace HX := Lib.hid (HX.out.below hb)
    replace HO := Lib.hid (HO.out.below hb)
    replace HL := Lib.hid (low_after HL.out hb)
    replace HBW := Lib.hid (Nat.le_trans HBW.out hb.size)
    replace HEG := Lib.hid (HEG.out.below hb)
    clear hb
    refine wp_region_held_drew (S := fun w' => Box w' kb 49 [.int .i64 de, .int .i64 qu, .int .i64 wi, .int .i64 ti, .int .i64 qa, .int .i64 bu, .int .i64 le, .int .i64 pb, .int .i64 pc, .int .i64 pj, .int .i64 pt, .int .i64 nw, .int .i64 la, .slice ea1 E.length ec1, .slice ka1 K.length kc1, .int .i64 tu, .slice fa1 F.length fc1, .slice ra1 R.length rc1, .int .i64 tk, .int .i64 ac, .int .i64 dr]) (by kernel_rfl) HX.out (fun hHeld => ?_)
    obtain ⟨wd, hwd⟩ : ∃ x, x = w3.drew := ⟨_, rfl⟩
    rw [← hwd] at HR HX HO HL HBW HEG hHeld ⊢
    clear hwd
    refine wpAnyH_take (i := 0) (oi := { dst := some _, op := _, type := _, pos := _, after := _, guard := _ }) (v := ?_) rfl (by kernel_rfl) (by kernel_rfl) (by kernel_rfl) (fun _ _ _ h => h) ?_ (by with_reducible assumption) ?_
    rotate_left 1
    focus (refine Or.inl ⟨by rfl, ?_⟩; intro wq hSw; go_simp; try with_reducible rfl)
    try simp only [Act.put, List.setIfInBounds_toArray, List.set_cons_zero, List.set_cons_succ]
    refine wpAnyH_take (i := 1) (oi := { dst := some _, op := _, type := _, pos := _, after := _, guard := _ }) (v := ?_) rfl (by kernel_rfl) (by kernel_rfl) (by kernel_rfl) (fun _ _ _ h => h) ?_ (by with_reducible assumption) ?_
    rotate_left 1
    focus (refine Or.inl ⟨by rfl, ?_⟩; intro wq hSw; refine exec_load_box ?_ 33 ?_ ?_ hSw _ Tryd.underlying33 sizeGate; rotate_left 1; rfl; rfl)
    try simp only [Act.put, List.setIfInBounds_toArray, List.set_cons_zero, List.set_cons_succ]
    refine wpAnyH_take (i := 2) (oi := { dst := some _, op := _, type := _, pos := _, after := _, guard := _ }) (v := ?_) rfl (by kernel_rfl) (by kernel_rfl) (by kernel_rfl) (fun _ _ _ h => h) ?_ (by with_reducible assumption) ?_
    rotate_left 1
    focus (refine Or.inl ⟨by rfl, ?_⟩; intro wq hSw; go_simp; try with_reducible rfl)
    try simp only [Act.put, List.setIfInBounds_toArray, List.set_cons_zero, List.set_cons_succ]
    refine wpAnyH_take (i := 3) (oi := { dst := some _, op := _, type := _, pos := _, after := _, guard := _ }) (v := ?_) rfl (by kernel_rfl) (by kernel_rfl) (by kernel_rfl) (fun _ _ _ h => h) ?_ (by with_reducible assumption) ?_
    rotate_left 1
    focus (refine Or.inl ⟨by rfl, ?_⟩; intro wq hSw; go_simp; try with_reducible rfl)
    try simp only [Act.put, List.setIfInBounds_toArray, List.set_cons_zero, List.set_cons_succ]
    refine wpAnyH_ready (rs := [4]) (by kernel_rfl) (by simp) ?_
    refine AllReadyH.cons rfl (fun KC hKC => ?_) AllReadyH.nil
    go_simp
    refine (codeOf_any _ cd HEG.out).mono ?_
    rintro e w4 ⟨rfl, hb⟩
    replace HR := Lib.hid (HR.out.below hb)
    replace HX := Lib.hid (HX.out.below hb)
    replace HO := Lib.hid (HO.out.below hb)
    replace HL := Lib.hid (low_after HL.out hb)
    replace HBW := Lib.hid (Nat.le_trans HBW.out hb.size)
    replace HEG := Lib.hid (HEG.out.below hb)
    clear hb hHeld
    dsimp only
    refine hKC.out _ _ (HX.out) (fun hHeld => ?_)
    clear hKC
    try simp only [Act.put, List.setIfInBounds_toArray, List.set_cons_zero, List.set_cons_succ]
    refine wpAnyH_ready (rs := [5]) (by kernel_rfl) (by simp) ?_
    refine AllReadyH.cons rfl (fun KS hKS => ?_) AllReadyH.nil
    refine step_store_box rfl _ _ 33 rfl rfl [.int .i64 de, .int .i64 qu, .int .i64 wi, .int .i64 ti, .int .i64 qa, .int .i64 bu, .int .i64 le, .int .i64 pb, .int .i64 pc, .int .i64 pj, .int .i64 pt, .int .i64 nw, .int .i64 la, .slice ea1 E.length ec1, .slice ka1 K.length kc1, .int .i64 tu, .slice fa1 F.length fc1, .slice ra1 R.length rc1, .int .i64 tk, .int .i64 ac, .int .i64 dr] rfl HR.out sizeGate rfl rfl ?_
    intro V hXb hgV hlV
    replace HX := Lib.hid (HX.out.grown hgV (fun e => by injection e; have := HB1.out; have := HKB.out; omega))
    clear hHeld
    refine hKS.out _ _ (HX.out) (fun hHeld => ?_)
    clear hKS
    try simp only [Act.put, List.setIfInBounds_toArray, List.set_cons_zero, List.set_cons_succ]
    refine wpAnyH_take (i := 6) (oi := { dst := some _, op := _, type := _, pos := _, after := _, guard := _ }) (v := ?_) rfl (by kernel_rfl) (by kernel_rfl) (by kernel_rfl) (fun _ _ _ h => h) ?_ (by with_reducible assumption) ?_
    rotate_left 1
    focus (refine Or.inl ⟨by rfl, ?_⟩; intro wq hSw; go_simp; try with_reducible rfl)
    try simp only [Act.put, List.setIfInBounds_toArray, List.set_cons_zero, List.set_cons_succ]
    refine wpAnyH_take (i := 7) (oi := { dst := some _, op := _, type := _, pos := _, after := _, guard := _ }) (v := ?_) rfl (by kernel_rfl) (by kernel_rfl) (by kernel_rfl) (fun _ _ _ h => h) ?_ (by with_reducible assumption) ?_
    rotate_left 1
    focus (refine Or.inl ⟨by rfl, ?_⟩; intro wq hSw; go_simp; try with_reducible rfl)
    try simp only [Act.put, List.setIfInBounds_toArray, List.set_cons_zero, List.set_cons_succ]
    refine wpAnyH_done (by kernel_rfl) ?_ _
    clear hHeld
    go_wp2_with fail
    exact bodyPost_ret (v := .tuple #[.agg #[.int .i64 de, .int .i64 qu, .int .i64 wi, .int .i64 ti, .int .i64 qa, .int .i64 bu, .int .i64 le, .int .i64 pb, .int .i64 pc, .int .i64 pj, .int .i64 pt, .int .i64 nw, .int .i64 la, .slice ea1 E.length ec1, .slice ka1 K.length kc1, .int .i64 tu, .slice fa1 F.length fc1, .slice ra1 R.length rc1, .int .i64 tk, .int .i64 ac, .int .i64 dr], .int .i64 0, .int .i64 cd]) (results_box3 _ Tryd.results10 rfl rfl rfl hXb _ Tryd.underlying33 sizeGate) rfl ⟨⟨ea1, ec1, ka1, kc1, fa1, fc1, ra1, rc1, vs, by rw [HS0.out]; rfl, by rw [HS0.out]; exact (HO.out.low hgV (by have := HB1.out; omega)).base (by have := HB1.out; omega)⟩, hlV w.heap.size w (by omega) HL.out⟩

end Go.Proofs.YtkndpkingmemoaaDoor.Gat
