/-
  refusal: why a Gate doesn't take an Event.
  keeper.remove with its slices.DeleteFunc.
  slices.DeleteFunc with the closure of keeper.remove; remove.
  keeper.remove; the program's Drain.
  keeper.take.
  A whole box stored in a drawn region; the program's Submit.
-/
import Derived.Test.YtkndpkingmemoaaGreatDoorMgs
import Derived.Test.YtkndpkingmemoaaGreatDoorMgm
import Derived.Test.YtkndpkingmemoaaGreatDoorMgr
import Derived.Test.YtkndpkingmemoaaGreatDoorMgn
import Derived.Test.YtkndpkingmemoaaGreatDoorMgo
namespace Go.Proofs.YtkndpkingmemoaaGreatDoor.Gat
open Go.RowKit
open Lnk (bOne bAfter IOwn IIs YOwn YIs below_keep below_drew' bcell low_after low_alloc grown_of_below)
set_option linter.unusedVariables false
set_option linter.unusedSimpArgs false

theorem gok_open {de qu wi ti qa bu le pb pc pj pt nw la : Int} {en kn : Nat} {tu : Int} {fn rn : Nat} {tk ac dr : Int} {E : List Ev} {K : List Lk} {F R : List Int} (h : gokB de qu wi ti qa bu le pb pc pj pt nw la en kn tu fn rn tk ac dr E K F R = true) (hkn : K.length = kn) (hfn : F.length = fn) (d : Int) (hd : inB 1 de d = true) : (openN d E : Int) ≤ qu := by
  have h1 := (gokB_true h).2.2.2.1
  have h2 := inB_yes hd
  unfold slP at h1
  have h3 := h1.2.2 (d - 1).toNat (by omega) (by omega)
  have e : (((d - 1).toNat : Nat) : Int) + 1 = d := by omega
  rw [e] at h3
  unfold linkGood at h3
  have := h3
  omega
set_option maxRecDepth 100000 in
set_option maxHeartbeats 8000000 in
theorem refusal_any (w : World) (de qu wi ti qa bu le pb pc pj pt nw la : Int) (ea : Option Addr) (en ec : Nat) (ka : Option Addr) (kn kc : Nat) (tu : Int) (fa : Option Addr) (fn fc : Nat) (ra : Option Addr) (rn rc : Nat) (tk ac dr : Int) (E : List Ev) (K : List Lk) (F R : List Int) (hE : ∀ e ∈ E, (Lit.int .i64 e.i).wf = true) (hR : ∀ x ∈ R, (Lit.int .i64 x).wf = true) (i d c : Int) (bd : ByteArray) (at_ t r n s : Int) (hbd : bd.size ≤ maxLen) (h : GIs w.heap.size w ea en ka kn fa fn ra rn E K F R) (hs : Small en kn fn rn K) :
    Calls Tryz.prog 95 #[.agg #[.int .i64 de, .int .i64 qu, .int .i64 wi, .int .i64 ti, .int .i64 qa, .int .i64 bu, .int .i64 le, .int .i64 pb, .int .i64 pc, .int .i64 pj, .int .i64 pt, .int .i64 nw, .int .i64 la, .slice ea en ec, .slice ka kn kc, .int .i64 tu, .slice fa fn fc, .slice ra rn rc, .int .i64 tk, .int .i64 ac, .int .i64 dr], .agg #[.int .i64 i, .int .i64 d, .int .i64 c, .string bd, .int .i64 at_, .int .i64 t, .int .i64 r, .int .i64 n, .int .i64 s]] w fun e w' => e = .returned (errV (subC (gokB de qu wi ti qa bu le pb pc pj pt nw la en kn tu fn rn tk ac dr E K F R) nw de d c bd.size pt t qu en la E)) ∧ Below w.heap.size w w' := by
  obtain ⟨W0, hW0⟩ : ∃ W, W = (w.alloc (.cells #[.int .i64 de, .int .i64 qu, .int .i64 wi, .int .i64 ti, .int .i64 qa, .int .i64 bu, .int .i64 le, .int .i64 pb, .int .i64 pc, .int .i64 pj, .int .i64 pt, .int .i64 nw, .int .i64 la, .slice ea en ec, .slice ka kn kc, .int .i64 tu, .slice fa fn fc, .slice ra rn rc, .int .i64 tk, .int .i64 ac, .int .i64 dr] 32)).alloc (.cells #[.int .i64 i, .int .i64 d, .int .i64 c, .string bd, .int .i64 at_, .int .i64 t, .int .i64 r, .int .i64 n, .int .i64 s] 39) := ⟨_, rfl⟩
  have hb01 := bOne w (.cells #[.int .i64 de, .int .i64 qu, .int .i64 wi, .int .i64 ti, .int .i64 qa, .int .i64 bu, .int .i64 le, .int .i64 pb, .int .i64 pc, .int .i64 pj, .int .i64 pt, .int .i64 nw, .int .i64 la, .slice ea en ec, .slice ka kn kc, .int .i64 tu, .slice fa fn fc, .slice ra rn rc, .int .i64 tk, .int .i64 ac, .int .i64 dr] 32)
  have hb02 := bOne (w.alloc (.cells #[.int .i64 de, .int .i64 qu, .int .i64 wi, .int .i64 ti, .int .i64 qa, .int .i64 bu, .int .i64 le, .int .i64 pb, .int .i64 pc, .int .i64 pj, .int .i64 pt, .int .i64 nw, .int .i64 la, .slice ea en ec, .slice ka kn kc, .int .i64 tu, .slice fa fn fc, .slice ra rn rc, .int .i64 tk, .int .i64 ac, .int .i64 dr] 32)) (.cells #[.int .i64 i, .int .i64 d, .int .i64 c, .string bd, .int .i64 at_, .int .i64 t, .int .i64 r, .int .i64 n, .int .i64 s] 39)
  have HA : Hid (Box W0 w.heap.size 32 [.int .i64 de, .int .i64 qu, .int .i64 wi, .int .i64 ti, .int .i64 qa, .int .i64 bu, .int .i64 le, .int .i64 pb, .int .i64 pc, .int .i64 pj, .int .i64 pt, .int .i64 nw, .int .i64 la, .slice ea en ec, .slice ka kn kc, .int .i64 tu, .slice fa fn fc, .slice ra rn rc, .int .i64 tk, .int .i64 ac, .int .i64 dr]) := Lib.hid (by rw [hW0]; exact (Box.new w [.int .i64 de, .int .i64 qu, .int .i64 wi, .int .i64 ti, .int .i64 qa, .int .i64 bu, .int .i64 le, .int .i64 pb, .int .i64 pc, .int .i64 pj, .int .i64 pt, .int .i64 nw, .int .i64 la, .slice ea en ec, .slice ka kn kc, .int .i64 tu, .slice fa fn fc, .slice ra rn rc, .int .i64 tk, .int .i64 ac, .int .i64 dr] 32).below hb02)
  have HE1 : Hid (Box W0 (w.heap.size + 1) 39 [.int .i64 i, .int .i64 d, .int .i64 c, .string bd, .int .i64 at_, .int .i64 t, .int .i64 r, .int .i64 n, .int .i64 s]) := Lib.hid (by
    rw [hW0]
    have := Box.new (w.alloc (.cells #[.int .i64 de, .int .i64 qu, .int .i64 wi, .int .i64 ti, .int .i64 qa, .int .i64 bu, .int .i64 le, .int .i64 pb, .int .i64 pc, .int .i64 pj, .int .i64 pt, .int .i64 nw, .int .i64 la, .slice ea en ec, .slice ka kn kc, .int .i64 tu, .slice fa fn fc, .slice ra rn rc, .int .i64 tk, .int .i64 ac, .int .i64 dr] 32)) [.int .i64 i, .int .i64 d, .int .i64 c, .string bd, .int .i64 at_, .int .i64 t, .int .i64 r, .int .i64 n, .int .i64 s] 39
    simpa using this)
  have HL : Hid (Below w.heap.size w W0) := Lib.hid (by rw [hW0]; exact hb01.trans (hb02.mono (by simp)))
  have HWE := Lib.hid hW0
  have HG := Lib.hid h
  have HSM := Lib.hid hs
  have hEx := Lib.hid hE
  have hRx := Lib.hid hR
  obtain ⟨gk, hgk⟩ : ∃ x, x = (gokB de qu wi ti qa bu le pb pc pj pt nw la en kn tu fn rn tk ac dr E K F R) := ⟨_, rfl⟩
  have HGK := Lib.hid hgk
  have hen : en ≤ 1048576 := hs.1
  unfold maxLen at hbd
  clear hW0 hb01 hb02 h hs hE hR hgk
  go_enter Tryz.func95, Tryz.ntmps95
  go_upto_region 1 with fail
  rw [← HWE.out]
  clear HWE
  go_wp2_with (first | (refine wpList_load_box rfl _ 32 rfl rfl HA.out _ Tryz.underlying32 sizeGate ?_) | fail)
  refine (implGokB_any _ de qu wi ti qa bu le pb pc pj pt nw la ea en ec ka kn kc tu fa fn fc ra rn rc tk ac dr E K F R hEx.out hRx.out HSM.out.1 HSM.out.2.2.2.2 (HG.out.here HL.out)).mono ?_
  rintro e w2 ⟨rfl, hb⟩
  rw [← HGK.out]
  replace HA := Lib.hid (HA.out.below hb)
  replace HE1 := Lib.hid (HE1.out.below hb)
  replace HL := Lib.hid (low_after HL.out hb)
  clear hb
  cases gk with
  | false =>
    have a1 := HA.out.cell 11 _ rfl
    have a2 := HA.out.cell 12 _ rfl
    have a3 := HA.out.cell 13 _ rfl
    have a4 := HA.out.cell 10 _ rfl
    have e1 := HE1.out.cell 1 _ rfl
    have e2 := HE1.out.cell 2 _ rfl
    have e3 := HE1.out.cell 3 _ rfl
    have e5 := HE1.out.cell 5 _ rfl
    have HQ := Lib.hid (show subC (gokB de qu wi ti qa bu le pb pc pj pt nw la en kn tu fn rn tk ac dr E K F R) nw de d c bd.size pt t qu en la E = 1 from by unfold subC; rw [← HGK.out]; simp only [cond_true, cond_false, Bool.not_true, Bool.not_false, Bool.or_true, Bool.true_or, Bool.or_false, Bool.false_or])
    go_wp2_with fail
    go_ret
    exact ⟨by rw [HQ.out]; rfl, HL.out⟩
  | true =>
  have HGT := Lib.hid HGK.out.symm
  cases h2 : (nw == 1000000000) with
  | true =>
    have a1 := HA.out.cell 11 _ rfl
    have a2 := HA.out.cell 12 _ rfl
    have a3 := HA.out.cell 13 _ rfl
    have a4 := HA.out.cell 10 _ rfl
    have e1 := HE1.out.cell 1 _ rfl
    have e2 := HE1.out.cell 2 _ rfl
    have e3 := HE1.out.cell 3 _ rfl
    have e5 := HE1.out.cell 5 _ rfl
    have HQ := Lib.hid (show subC (gokB de qu wi ti qa bu le pb pc pj pt nw la en kn tu fn rn tk ac dr E K F R) nw de d c bd.size pt t qu en la E = 2 from by unfold subC; rw [← HGK.out]; simp only [h2, cond_true, cond_false, Bool.not_true, Bool.not_false, Bool.or_true, Bool.true_or, Bool.or_false, Bool.false_or])
    go_wp2_with fail
    go_ret
    exact ⟨by rw [HQ.out]; rfl, HL.out⟩
  | false =>
  have a1 := HA.out.cell 11 _ rfl
  have a2 := HA.out.cell 12 _ rfl
  have a3 := HA.out.cell 13 _ rfl
  have a4 := HA.out.cell 10 _ rfl
  have e1 := HE1.out.cell 1 _ rfl
  have e2 := HE1.out.cell 2 _ rfl
  have e3 := HE1.out.cell 3 _ rfl
  have e5 := HE1.out.cell 5 _ rfl
  go_wp2_with (first | (refine wpList_load_box rfl _ 32 rfl rfl HA.out _ Tryz.underlying32 sizeGate ?_) | fail)
  refine (hasDev_any _ de qu wi ti qa bu le pb pc pj pt nw la ea en ec ka kn kc tu fa fn fc ra rn rc tk ac dr d).mono ?_
  rintro e w3 ⟨rfl, hb⟩
  clear a1 a2 a3 a4 e1 e2 e3 e5
  replace HA := Lib.hid (HA.out.below hb)
  replace HE1 := Lib.hid (HE1.out.below hb)
  replace HL := Lib.hid (low_after HL.out hb)
  clear hb
  cases h3 : inB 1 de d with
  | false =>
    have a1 := HA.out.cell 11 _ rfl
    have a2 := HA.out.cell 12 _ rfl
    have a3 := HA.out.cell 13 _ rfl
    have a4 := HA.out.cell 10 _ rfl
    have e1 := HE1.out.cell 1 _ rfl
    have e2 := HE1.out.cell 2 _ rfl
    have e3 := HE1.out.cell 3 _ rfl
    have e5 := HE1.out.cell 5 _ rfl
    have HQ := Lib.hid (show subC (gokB de qu wi ti qa bu le pb pc pj pt nw la en kn tu fn rn tk ac dr E K F R) nw de d c bd.size pt t qu en la E = 3 from by unfold subC; rw [← HGK.out]; simp only [h2, h3, cond_true, cond_false, Bool.not_true, Bool.not_false, Bool.or_true, Bool.true_or, Bool.or_false, Bool.false_or])
    go_wp2_with fail
    go_ret
    exact ⟨by rw [HQ.out]; rfl, HL.out⟩
  | true =>
  cases k4 : decide (c < 1) with
  | true =>
    have h4 : inB 1 9 c = false := by simp at k4; unfold inB; simp; omega
    have a1 := HA.out.cell 11 _ rfl
    have a2 := HA.out.cell 12 _ rfl
    have a3 := HA.out.cell 13 _ rfl
    have a4 := HA.out.cell 10 _ rfl
    have e1 := HE1.out.cell 1 _ rfl
    have e2 := HE1.out.cell 2 _ rfl
    have e3 := HE1.out.cell 3 _ rfl
    have e5 := HE1.out.cell 5 _ rfl
    have HQ := Lib.hid (show subC (gokB de qu wi ti qa bu le pb pc pj pt nw la en kn tu fn rn tk ac dr E K F R) nw de d c bd.size pt t qu en la E = 4 from by unfold subC; rw [← HGK.out]; simp only [h2, h3, h4, cond_true, cond_false, Bool.not_true, Bool.not_false, Bool.or_true, Bool.true_or, Bool.or_false, Bool.false_or])
    go_wp2_with fail
    go_ret
    exact ⟨by rw [HQ.out]; rfl, HL.out⟩
  | false =>
  cases l4 : decide (9 < c) with
  | true =>
    have h4 : inB 1 9 c = false := by simp at l4; unfold inB; simp; omega
    have a1 := HA.out.cell 11 _ rfl
    have a2 := HA.out.cell 12 _ rfl
    have a3 := HA.out.cell 13 _ rfl
    have a4 := HA.out.cell 10 _ rfl
    have e1 := HE1.out.cell 1 _ rfl
    have e2 := HE1.out.cell 2 _ rfl
    have e3 := HE1.out.cell 3 _ rfl
    have e5 := HE1.out.cell 5 _ rfl
    have HQ := Lib.hid (show subC (gokB de qu wi ti qa bu le pb pc pj pt nw la en kn tu fn rn tk ac dr E K F R) nw de d c bd.size pt t qu en la E = 4 from by unfold subC; rw [← HGK.out]; simp only [h2, h3, h4, cond_true, cond_false, Bool.not_true, Bool.not_false, Bool.or_true, Bool.true_or, Bool.or_false, Bool.false_or])
    go_wp2_with fail
    go_ret
    exact ⟨by rw [HQ.out]; rfl, HL.out⟩
  | false =>
  have h4 : inB 1 9 c = true := by simp at k4 l4; unfold inB; simp; omega
  cases h5 : decide ((40 : Int) < (bd.size : Int)) with
  | true =>
    have a1 := HA.out.cell 11 _ rfl
    have a2 := HA.out.cell 12 _ rfl
    have a3 := HA.out.cell 13 _ rfl
    have a4 := HA.out.cell 10 _ rfl
    have e1 := HE1.out.cell 1 _ rfl
    have e2 := HE1.out.cell 2 _ rfl
    have e3 := HE1.out.cell 3 _ rfl
    have e5 := HE1.out.cell 5 _ rfl
    have HQ := Lib.hid (show subC (gokB de qu wi ti qa bu le pb pc pj pt nw la en kn tu fn rn tk ac dr E K F R) nw de d c bd.size pt t qu en la E = 5 from by unfold subC; rw [← HGK.out]; simp only [h2, h3, h4, h5, cond_true, cond_false, Bool.not_true, Bool.not_false, Bool.or_true, Bool.true_or, Bool.or_false, Bool.false_or])
    go_wp2_with fail
    go_ret
    exact ⟨by rw [HQ.out]; rfl, HL.out⟩
  | false =>
  cases k6 : decide (t < 1) with
  | true =>
    have h6 : inB 1 pt t = false := by simp at k6; unfold inB; simp; omega
    have a1 := HA.out.cell 11 _ rfl
    have a2 := HA.out.cell 12 _ rfl
    have a3 := HA.out.cell 13 _ rfl
    have a4 := HA.out.cell 10 _ rfl
    have e1 := HE1.out.cell 1 _ rfl
    have e2 := HE1.out.cell 2 _ rfl
    have e3 := HE1.out.cell 3 _ rfl
    have e5 := HE1.out.cell 5 _ rfl
    have HQ := Lib.hid (show subC (gokB de qu wi ti qa bu le pb pc pj pt nw la en kn tu fn rn tk ac dr E K F R) nw de d c bd.size pt t qu en la E = 6 from by unfold subC; rw [← HGK.out]; simp only [h2, h3, h4, h5, h6, cond_true, cond_false, Bool.not_true, Bool.not_false, Bool.or_true, Bool.true_or, Bool.or_false, Bool.false_or])
    go_wp2_with fail
    go_ret
    exact ⟨by rw [HQ.out]; rfl, HL.out⟩
  | false =>
  cases l6 : decide (pt < t) with
  | true =>
    have h6 : inB 1 pt t = false := by simp at l6; unfold inB; simp; omega
    have a1 := HA.out.cell 11 _ rfl
    have a2 := HA.out.cell 12 _ rfl
    have a3 := HA.out.cell 13 _ rfl
    have a4 := HA.out.cell 10 _ rfl
    have e1 := HE1.out.cell 1 _ rfl
    have e2 := HE1.out.cell 2 _ rfl
    have e3 := HE1.out.cell 3 _ rfl
    have e5 := HE1.out.cell 5 _ rfl
    have HQ := Lib.hid (show subC (gokB de qu wi ti qa bu le pb pc pj pt nw la en kn tu fn rn tk ac dr E K F R) nw de d c bd.size pt t qu en la E = 6 from by unfold subC; rw [← HGK.out]; simp only [h2, h3, h4, h5, h6, cond_true, cond_false, Bool.not_true, Bool.not_false, Bool.or_true, Bool.true_or, Bool.or_false, Bool.false_or])
    go_wp2_with fail
    go_ret
    exact ⟨by rw [HQ.out]; rfl, HL.out⟩
  | false =>
  have h6 : inB 1 pt t = true := by simp at k6 l6; unfold inB; simp; omega
  have a1 := HA.out.cell 11 _ rfl
  have a2 := HA.out.cell 12 _ rfl
  have a3 := HA.out.cell 13 _ rfl
  have a4 := HA.out.cell 10 _ rfl
  have e1 := HE1.out.cell 1 _ rfl
  have e2 := HE1.out.cell 2 _ rfl
  have e3 := HE1.out.cell 3 _ rfl
  have e5 := HE1.out.cell 5 _ rfl
  go_upto_region 13 with fail
  clear a1 a2 a3 a4 e1 e2 e3 e5
  have hb := below_drew' (Below.refl w3.heap.size w3)
  replace HA := Lib.hid (HA.out.below hb)
  replace HE1 := Lib.hid (HE1.out.below hb)
  replace HL := Lib.hid (low_after HL.out hb)
  have HT := Lib.hid (HG.out.here HL.out)
  clear hb
  refine wp_region_held_drew (S := fun w' => Box w' w.heap.size 32 [.int .i64 de, .int .i64 qu, .int .i64 wi, .int .i64 ti, .int .i64 qa, .int .i64 bu, .int .i64 le, .int .i64 pb, .int .i64 pc, .int .i64 pj, .int .i64 pt, .int .i64 nw, .int .i64 la, .slice ea en ec, .slice ka kn kc, .int .i64 tu, .slice fa fn fc, .slice ra rn rc, .int .i64 tk, .int .i64 ac, .int .i64 dr] ∧ w'.cell? ⟨(w.heap.size + 1), 1, none⟩ = some (.int .i64 d)) (by kernel_rfl) ⟨HA.out, HE1.out.cell 1 _ rfl⟩ (fun hHeld => ?_)
  obtain ⟨wd, hwd⟩ : ∃ x, x = w3.drew := ⟨_, rfl⟩
  rw [← hwd] at HA HE1 HL HT hHeld ⊢
  clear hwd
  refine wpAnyH_take (i := 0) (oi := { dst := some _, op := _, type := _, pos := _, after := _, guard := _ }) (v := ?_) rfl (by kernel_rfl) (by kernel_rfl) (by kernel_rfl) (fun _ _ _ h => h) ?_ (by with_reducible assumption) ?_
  rotate_left 1
  focus (refine Or.inl ⟨by rfl, ?_⟩; intro wq hSw; refine exec_load_box ?_ 32 ?_ ?_ hSw.1 _ Tryz.underlying32 sizeGate; rotate_left 1; rfl; rfl)
  try simp only [Act.put, List.setIfInBounds_toArray, List.set_cons_zero, List.set_cons_succ]
  refine wpAnyH_take (i := 1) (oi := { dst := some _, op := _, type := _, pos := _, after := _, guard := _ }) (v := ?_) rfl (by kernel_rfl) (by kernel_rfl) (by kernel_rfl) (fun _ _ _ h => h) ?_ (by with_reducible assumption) ?_
  rotate_left 1
  focus (refine Or.inl ⟨by rfl, ?_⟩; intro wq hSw; go_simp; try with_reducible rfl)
  try simp only [Act.put, List.setIfInBounds_toArray, List.set_cons_zero, List.set_cons_succ]
  refine wpAnyH_take (i := 2) (oi := { dst := some _, op := _, type := _, pos := _, after := _, guard := _ }) (v := ?_) rfl (by kernel_rfl) (by kernel_rfl) (by kernel_rfl) (fun _ _ _ h => h) ?_ (by with_reducible assumption) ?_
  rotate_left 1
  focus (refine Or.inl ⟨by rfl, ?_⟩; intro wq hSw; have q0 := hSw.2; go_simp; try with_reducible rfl)
  try simp only [Act.put, List.setIfInBounds_toArray, List.set_cons_zero, List.set_cons_succ]
  refine wpAnyH_take (i := 4) (oi := { dst := some _, op := _, type := _, pos := _, after := _, guard := _ }) (v := ?_) rfl (by kernel_rfl) (by kernel_rfl) (by kernel_rfl) (fun _ _ _ h => h) ?_ (by with_reducible assumption) ?_
  rotate_left 1
  focus (refine Or.inl ⟨by rfl, ?_⟩; intro wq hSw; go_simp; try with_reducible rfl)
  try simp only [Act.put, List.setIfInBounds_toArray, List.set_cons_zero, List.set_cons_succ]
  refine wpAnyH_take (i := 5) (oi := { dst := some _, op := _, type := _, pos := _, after := _, guard := _ }) (v := ?_) rfl (by kernel_rfl) (by kernel_rfl) (by kernel_rfl) (fun _ _ _ h => h) ?_ (by with_reducible assumption) ?_
  rotate_left 1
  focus (refine Or.inl ⟨by rfl, ?_⟩; intro wq hSw; go_simp; try with_reducible rfl)
  try simp only [Act.put, List.setIfInBounds_toArray, List.set_cons_zero, List.set_cons_succ]
  refine wpAnyH_take (i := 6) (oi := { dst := some _, op := _, type := _, pos := _, after := _, guard := _ }) (v := ?_) rfl (by kernel_rfl) (by kernel_rfl) (by kernel_rfl) (fun _ _ _ h => h) ?_ (by with_reducible assumption) ?_
  rotate_left 1
  focus (refine Or.inl ⟨by rfl, ?_⟩; intro wq hSw; have q1 := hSw.1.cell 1 _ rfl; go_simp; try with_reducible rfl)
  try simp only [Act.put, List.setIfInBounds_toArray, List.set_cons_zero, List.set_cons_succ]
  refine wpAnyH_ready (rs := [3]) (by kernel_rfl) (by simp) ?_
  refine AllReadyH.cons rfl (fun KA hKA => ?_) AllReadyH.nil
  go_simp
  refine (implOpenOf_any _ de qu wi ti qa bu le pb pc pj pt nw la ea en ec ka kn kc tu fa fn fc ra rn rc tk ac dr E K F R d HT.out).mono ?_
  rintro e v1 ⟨rfl, hb⟩
  replace HA := Lib.hid (HA.out.below hb)
  replace HE1 := Lib.hid (HE1.out.below hb)
  replace HL := Lib.hid (low_after HL.out hb)
  clear hb hHeld HT
  dsimp only
  refine hKA.out _ _ (⟨HA.out, HE1.out.cell 1 _ rfl⟩) (fun hHeld => ?_)
  clear hKA
  try simp only [Act.put, List.setIfInBounds_toArray, List.set_cons_zero, List.set_cons_succ]
  refine wpAnyH_take (i := 7) (oi := { dst := some _, op := _, type := _, pos := _, after := _, guard := _ }) (v := ?_) rfl (by kernel_rfl) (by kernel_rfl) (by kernel_rfl) (fun _ _ _ h => h) ?_ (by with_reducible assumption) ?_
  rotate_left 1
  focus (refine Or.inl ⟨by rfl, ?_⟩; intro wq hSw; go_simp; try with_reducible rfl)
  try simp only [Act.put, List.setIfInBounds_toArray, List.set_cons_zero, List.set_cons_succ]
  refine wpAnyH_take (i := 8) (oi := { dst := some _, op := _, type := _, pos := _, after := _, guard := _ }) (v := ?_) rfl (by kernel_rfl) (by kernel_rfl) (by kernel_rfl) (fun _ _ _ h => h) ?_ (by with_reducible assumption) ?_
  rotate_left 1
  focus (refine Or.inl ⟨by rfl, ?_⟩; intro wq hSw; go_simp; try with_reducible rfl)
  try simp only [Act.put, List.setIfInBounds_toArray, List.set_cons_zero, List.set_cons_succ]
  refine wpAnyH_done (by kernel_rfl) ?_ _
  clear hHeld
  have HOQ := Lib.hid (gok_open HGT.out HG.out.lk.hlen HG.out.lf.hlen d h3)
  cases h7 : decide (qu ≤ (openN d E : Int)) with
  | true =>
    have k7 : ((openN d E : Int) == qu) = true := by have := HOQ.out; simp at h7 ⊢; omega
    have a1 := HA.out.cell 11 _ rfl
    have a2 := HA.out.cell 12 _ rfl
    have a3 := HA.out.cell 13 _ rfl
    have a4 := HA.out.cell 10 _ rfl
    have e1 := HE1.out.cell 1 _ rfl
    have e2 := HE1.out.cell 2 _ rfl
    have e3 := HE1.out.cell 3 _ rfl
    have e5 := HE1.out.cell 5 _ rfl
    have HQ := Lib.hid (show subC (gokB de qu wi ti qa bu le pb pc pj pt nw la en kn tu fn rn tk ac dr E K F R) nw de d c bd.size pt t qu en la E = 7 from by unfold subC; rw [← HGK.out]; simp only [h2, h3, h4, h5, h6, h7, cond_true, cond_false, Bool.not_true, Bool.not_false, Bool.or_true, Bool.true_or, Bool.or_false, Bool.false_or])
    go_wp2_with fail
    go_ret
    exact ⟨by rw [HQ.out]; rfl, HL.out⟩
  | false =>
  have k7 : ((openN d E : Int) == qu) = false := by simp at h7 ⊢; omega
  cases h8 : ((en : Int) == 60) with
  | true =>
    have a1 := HA.out.cell 11 _ rfl
    have a2 := HA.out.cell 12 _ rfl
    have a3 := HA.out.cell 13 _ rfl
    have a4 := HA.out.cell 10 _ rfl
    have e1 := HE1.out.cell 1 _ rfl
    have e2 := HE1.out.cell 2 _ rfl
    have e3 := HE1.out.cell 3 _ rfl
    have e5 := HE1.out.cell 5 _ rfl
    have HQ := Lib.hid (show subC (gokB de qu wi ti qa bu le pb pc pj pt nw la en kn tu fn rn tk ac dr E K F R) nw de d c bd.size pt t qu en la E = 8 from by unfold subC; rw [← HGK.out]; simp only [h2, h3, h4, h5, h6, h7, h8, cond_true, cond_false, Bool.not_true, Bool.not_false, Bool.or_true, Bool.true_or, Bool.or_false, Bool.false_or])
    go_wp2_with fail
    go_ret
    exact ⟨by rw [HQ.out]; rfl, HL.out⟩
  | false =>
  cases h9 : (la == 9999) with
  | true =>
    have a1 := HA.out.cell 11 _ rfl
    have a2 := HA.out.cell 12 _ rfl
    have a3 := HA.out.cell 13 _ rfl
    have a4 := HA.out.cell 10 _ rfl
    have e1 := HE1.out.cell 1 _ rfl
    have e2 := HE1.out.cell 2 _ rfl
    have e3 := HE1.out.cell 3 _ rfl
    have e5 := HE1.out.cell 5 _ rfl
    have HQ := Lib.hid (show subC (gokB de qu wi ti qa bu le pb pc pj pt nw la en kn tu fn rn tk ac dr E K F R) nw de d c bd.size pt t qu en la E = 8 from by unfold subC; rw [← HGK.out]; simp only [h2, h3, h4, h5, h6, h7, h8, h9, cond_true, cond_false, Bool.not_true, Bool.not_false, Bool.or_true, Bool.true_or, Bool.or_false, Bool.false_or])
    go_wp2_with fail
    go_ret
    exact ⟨by rw [HQ.out]; rfl, HL.out⟩
  | false =>
  have a1 := HA.out.cell 11 _ rfl
  have a2 := HA.out.cell 12 _ rfl
  have a3 := HA.out.cell 13 _ rfl
  have a4 := HA.out.cell 10 _ rfl
  have e1 := HE1.out.cell 1 _ rfl
  have e2 := HE1.out.cell 2 _ rfl
  have e3 := HE1.out.cell 3 _ rfl
  have e5 := HE1.out.cell 5 _ rfl
  have HQ := Lib.hid (show subC (gokB de qu wi ti qa bu le pb pc pj pt nw la en kn tu fn rn tk ac dr E K F R) nw de d c bd.size pt t qu en la E = 0 from by unfold subC; rw [← HGK.out]; simp only [h2, h3, h4, h5, h6, h7, h8, h9, cond_true, cond_false, Bool.not_true, Bool.not_false, Bool.or_true, Bool.true_or, Bool.or_false, Bool.false_or])
  go_wp2_with fail
  go_ret
  exact ⟨by rw [HQ.out]; rfl, HL.out⟩

end Go.Proofs.YtkndpkingmemoaaGreatDoor.Gat
namespace Go.Proofs.YtkndpkingmemoaaGreatDoor.Gat
open Go.RowKit
open Lnk (bOne bAfter IOwn IIs YOwn YIs below_keep below_drew' bcell low_after low_alloc grown_of_below)
set_option linter.unusedVariables false
set_option linter.unusedSimpArgs false

/-- messages without those of some ids -/
def keepL (ids : List Int) (E : List Ev) : List Ev := E.filter fun e => !hasI ids e.i
theorem keepL_snoc_no {ids : List Int} {E : List Ev} {j : Nat} (h : j < E.length) (hn : hasI ids E[j].i = true) : keepL ids (E.take (j + 1)) = keepL ids (E.take j) := by
  unfold keepL
  rw [List.take_succ_eq_append_getElem h, List.filter_append]
  simp [hn]
theorem keepL_snoc_yes {ids : List Int} {E : List Ev} {j : Nat} (h : j < E.length) (hn : hasI ids E[j].i = false) : keepL ids (E.take (j + 1)) = keepL ids (E.take j) ++ [E[j]] := by
  unfold keepL
  rw [List.take_succ_eq_append_getElem h, List.filter_append]
  simp [hn]
theorem keepL_all {ids : List Int} {E : List Ev} (h : ∀ e ∈ E, hasI ids e.i = false) : keepL ids E = E := by
  unfold keepL
  exact List.filter_eq_self.2 fun e he => by rw [h e he]; rfl
theorem keepL_body {ids : List Int} {E : List Ev} (h : ∀ e ∈ E, e.b.size ≤ maxLen) : ∀ e ∈ keepL ids E, e.b.size ≤ maxLen := fun e he => h e (List.mem_filter.1 he).1
theorem goneAll_eq : ∀ (ids : List Int) (E : List Ev), goneAll E ids = keepL ids E
  | [], E => by
    show E = _
    rw [keepL_all (fun e _ => hasI_no (by simp))]
  | x :: ids, E => by
    show goneAll (goneE x E) ids = _
    rw [goneAll_eq ids]
    unfold keepL goneE
    rw [List.filter_filter]
    refine List.filter_congr fun e _ => ?_
    have : hasI (x :: ids) e.i = (e.i == x || hasI ids e.i) := by unfold hasI; by_cases h1 : e.i = x <;> simp [h1]
    rw [this]
    cases (e.i == x) <;> cases (hasI ids e.i) <;> rfl
/-- the box of the closure's ids, and the ids -/
structure IdB (w : World) (kp Bi : Nat) (ia : Option Addr) (n ic : Nat) (ids : List Int) : Prop where
  box : Box w kp 30 [.slice ia n ic]
  row : (inR (.slice ia n ic) ids).At Bi w
theorem IdB.below {w w' : World} {kp Bi : Nat} {ia : Option Addr} {n ic : Nat} {ids : List Int} (h : IdB w kp Bi ia n ic ids) (hb : Below w.heap.size w w') : IdB w' kp Bi ia n ic ids := ⟨h.box.below hb, inR_below h.row hb⟩
theorem IdB.ev {w w' : World} {kp Bi B : Nat} {ia : Option Addr} {n ic : Nat} {ids : List Int} {v : Value} {l : List Ev} (h : IdB w kp Bi ia n ic ids) (hr : (evR v l).At B w) (hg : w.grownBy w' v.ownBlock) : IdB w' kp Bi ia n ic ids := ⟨h.box.grown hg (hr.ne_box rfl h.box rfl), inR_kept h.row hr ne_ei hg⟩

set_option maxRecDepth 100000 in
set_option maxHeartbeats 2000000 in
theorem delFn_any (w : World) (kp Bi : Nat) (ia : Option Addr) (m ic : Nat) (ids : List Int) (i d c : Int) (bd : ByteArray) (at_ t r n s : Int) (h : IdB w kp Bi ia m ic ids) (hm : m ≤ 1048576) :
    Calls Tryz.prog 183 #[.agg #[.int .i64 i, .int .i64 d, .int .i64 c, .string bd, .int .i64 at_, .int .i64 t, .int .i64 r, .int .i64 n, .int .i64 s], .pointer (some ⟨kp, 0, none⟩)] w fun e w' => e = .returned (.bool (hasI ids i)) ∧ Below w.heap.size w w' := by
  have hb := bOne w (.cells #[.int .i64 i, .int .i64 d, .int .i64 c, .string bd, .int .i64 at_, .int .i64 t, .int .i64 r, .int .i64 n, .int .i64 s] 39)
  have H := Lib.hid (h.below hb)
  have HL := Lib.hid hb
  have HC := Lib.hid (Box.new w [.int .i64 i, .int .i64 d, .int .i64 c, .string bd, .int .i64 at_, .int .i64 t, .int .i64 r, .int .i64 n, .int .i64 s] 39)
  clear h hb
  have c0 := H.out.box.cell 0 _ rfl
  go_enter Tryz.func183, Tryz.ntmps183
  go_wp2_with fail
  refine (contains_any _ _ ia m ic ids i (Lnk.IOwn.isN (inR_at.1 (H.out.row))) hm).mono ?_
  rintro e w1 ⟨rfl, rfl⟩
  go_wp2_with fail
  go_ret
  exact ⟨rfl, HL.out⟩

def IfEnd (ids : List Int) (E : List Ev) (e : Ending) : Prop := ∃ n : Int, e = .returned (.int .i64 n) ∧ ((n = -1 ∧ ∀ x ∈ E, hasI ids x.i = false) ∨ ∃ (k : Nat) (hk : k < E.length), n = (k : Int) ∧ hasI ids E[k].i = true ∧ ∀ x ∈ E.take k, hasI ids x.i = false)
set_option maxRecDepth 100000 in
set_option maxHeartbeats 4000000 in
theorem indexFn_any (w : World) (B kp Bi : Nat) (ia : Option Addr) (m ic : Nat) (ids : List Int) (ea : Option Addr) (ec : Nat) (E : List Ev) (h : IdB w kp Bi ia m ic ids) (hm : m ≤ 1048576) (he : RIs evS w.heap.size w ea E.length E) (hen : E.length ≤ 1048576) :
    Calls Tryz.prog 198 #[.slice ea E.length ec, .func (.func 183) #[] #[.pointer (some ⟨kp, 0, none⟩)]] w fun e w' => IfEnd ids E e ∧ Below w.heap.size w w' := by
  have heg : ∀ (args : Array Value) (w1 : World), (callFunc 183 args).run Tryz.prog w1 = .ok (.enter 183 args) w1 := enters_of Tryz.func183 (by kernel_rfl) rfl
  have H := Lib.hid h
  have HE := Lib.hid he
  clear h he
  go_enter Tryz.func198, Tryz.ntmps198
  go_wp2_with fail
  go_loopw [8] (fun i wr => ∃ j : Nat, j ≤ E.length ∧ i = .int .i64 j ∧ Hid (∀ x ∈ E.take j, hasI ids x.i = false) ∧ Hid (Below w.heap.size w wr)) (fun i _ => E.length - (intOf i).toNat)
  case atStart => exact ⟨0, by omega, rfl, Lib.hid (by simp), Lib.hid (Below.refl _ _)⟩
  case round =>
    obtain ⟨j, hj, rfl, HX, HL⟩ := hrel
    by_cases hlt : (j : Int) < (E.length : Int)
    · have hjl : j < E.length := by omega
      obtain ⟨b, off, rfl, hb, hc⟩ := (HE.out.below HL.out).cell j hjl
      obtain ⟨i, d, c, bd, at_, t, r, n, s, hej⟩ : ∃ i d c bd at_ t r n s, E[j] = ⟨i, d, c, bd, at_, t, r, n, s⟩ := ⟨_, _, _, _, _, _, _, _, _, rfl⟩
      rw [hej] at hc
      have c0 : wr.cell? ⟨b, off + j * 9, none⟩ = some (.int .i64 i) := hc 0 _ rfl
      have c1 : wr.cell? ⟨b, off + j * 9 + 1, none⟩ = some (.int .i64 d) := hc 1 _ rfl
      have c2 : wr.cell? ⟨b, off + j * 9 + 2, none⟩ = some (.int .i64 c) := hc 2 _ rfl
      have c3 : wr.cell? ⟨b, off + j * 9 + 3, none⟩ = some (.string bd) := hc 3 _ rfl
      have c4 : wr.cell? ⟨b, off + j * 9 + 4, none⟩ = some (.int .i64 at_) := hc 4 _ rfl
      have c5 : wr.cell? ⟨b, off + j * 9 + 5, none⟩ = some (.int .i64 t) := hc 5 _ rfl
      have c6 : wr.cell? ⟨b, off + j * 9 + 6, none⟩ = some (.int .i64 r) := hc 6 _ rfl
      have c7 : wr.cell? ⟨b, off + j * 9 + 7, none⟩ = some (.int .i64 n) := hc 7 _ rfl
      have c8 : wr.cell? ⟨b, off + j * 9 + 8, none⟩ = some (.int .i64 s) := hc 8 _ rfl
      have HEJ := Lib.hid hej
      clear hc hej
      go_wp2_with fail
      refine (delFn_any _ kp Bi ia m ic ids i d c bd at_ t r n s (H.out.below HL.out) hm).mono ?_
      rintro e w1 ⟨rfl, hb1⟩
      have HL1 := Lib.hid (low_after HL.out hb1)
      clear hb1 c0 c1 c2 c3 c4 c5 c6 c7 c8
      cases hh : hasI ids i with
      | true =>
        have HM := Lib.hid (show hasI ids E[j].i = true by rw [HEJ.out]; exact hh)
        clear hh
        go_wp2_with fail
        go_ret
        exact ⟨⟨(j : Int), rfl, .inr ⟨j, hjl, rfl, HM.out, HX.out⟩⟩, HL1.out⟩
      | false =>
        have HM := Lib.hid (show ∀ x ∈ E.take (j + 1), hasI ids x.i = false by
          rw [List.take_succ_eq_append_getElem hjl, HEJ.out]
          intro x hx
          rcases List.mem_append.1 hx with hx | hx
          · exact HX.out x hx
          · rw [List.mem_singleton.1 hx]; exact hh)
        clear hh
        go_wp2_with fail
        go_roundw
        case rel => exact ⟨j + 1, by omega, by go_num, HM, HL1⟩
        case measure => simp [intOf]; omega
    · have HM := Lib.hid (show ∀ x ∈ E, hasI ids x.i = false by
        have h1 := HX.out
        rw [List.take_of_length_le (by omega)] at h1
        exact h1)
      go_wp2_with fail
      go_ret
      exact ⟨⟨-1, rfl, .inl ⟨rfl, HM.out⟩⟩, HL.out⟩

/-- the cells of zero messages -/
def zEv : Array Value := #[.int .i64 0, .int .i64 0, .int .i64 0, .string ByteArray.empty, .int .i64 0, .int .i64 0, .int .i64 0, .int .i64 0, .int .i64 0]
theorem zeros_len (n : Nat) : (Builtin.zeroCells zEv n).toList.length = n * 9 := by simp [Builtin.zeroCells, zEv]
theorem zeros_one (n : Nat) : ∀ v ∈ (Builtin.zeroCells zEv n).toList, v.oneCell' = true := by
  intro v hv
  unfold Builtin.zeroCells at hv
  rw [Array.toList_map, List.mem_map] at hv
  obtain ⟨i, _, rfl⟩ := hv
  have hs : zEv.size = 9 := rfl
  rw [hs]
  have h9 : i % 9 < 9 := Nat.mod_lt _ (by omega)
  generalize i % 9 = k at h9
  have : k = 0 ∨ k = 1 ∨ k = 2 ∨ k = 3 ∨ k = 4 ∨ k = 5 ∨ k = 6 ∨ k = 7 ∨ k = 8 := by omega
  rcases this with rfl | rfl | rfl | rfl | rfl | rfl | rfl | rfl | rfl <;> rfl
/-- zeros behind the first ones -/
theorem stores_at {P : Program} {k : Nat} {T : TypeId} (base : Nat) : ∀ (vs : List Value) (o : Nat) (w : World) (l : List Value), Box w k T l → base + o + vs.length ≤ l.length → (∀ v ∈ vs, v.oneCell' = true) → (storeCells ⟨k, base, none⟩ vs o).run P w = .ok () (storeMany w k (base + o) vs)
  | [], o, w, l, h, _, _ => rfl
  | v :: vs, o, w, l, h, hl, h1 => by
    have hadd : (⟨k, base, none⟩ : Addr).add o = ⟨k, base + o, none⟩ := by unfold Addr.add; split <;> simp_all
    have hlt : base + o < l.length := by simp at hl; omega
    have hc := h.cell (base + o) l[base + o] (List.getElem?_eq_getElem hlt)
    have hst : (store ((⟨k, base, none⟩ : Addr).add o) v).run P w = .ok () (w.setCell ⟨k, base + o, none⟩ v) := by
      rw [hadd, run_store P w _ v _ (h1 v (by simp)), hc]
      simp [h.frozen (base + o)]
    have ih := stores_at (P := P) base vs (o + 1) (w.setCell ⟨k, base + o, none⟩ v) (l.set (base + o) v) (Box.store [v] (base + o) _ _ h) (by simp at hl ⊢; omega) (fun x hx => h1 x (by simp [hx]))
    simp only [storeCells, Sem.run_bind, hst, Result.andThen_ok]
    exact ih
theorem setMany_take : ∀ (vs l : List Value) (o n : Nat), n ≤ o → (setMany l o vs).take n = l.take n
  | [], l, o, n, h => rfl
  | v :: vs, l, o, n, h => by
    show (setMany (l.set o v) (o + 1) vs).take n = _
    rw [setMany_take vs _ _ n (by omega), List.take_set_of_le (by omega)]
theorem setMany_length : ∀ (vs l : List Value) (o : Nat), (setMany l o vs).length = l.length
  | [], l, o => rfl
  | v :: vs, l, o => by
    show (setMany (l.set o v) (o + 1) vs).length = _
    rw [setMany_length vs, List.length_set]
/-- what clear leaves of a row that is cut at i -/
theorem run_clear_row {w : World} {B g n cap : Nat} {M : List Ev} (i : Nat) (ty : TypeId) (h : ROwn evS B w 39 (.slice (some ⟨g, 0, none⟩) n cap) M) (hi : i ≤ n) :
    ∃ w', (Builtin.clear_ #[28] ty #[.slice (some ⟨g, i * 9, none⟩) (n - i) (cap - i)]).run Tryz.prog w = .ok (.tuple #[]) w' ∧ ROwn evS B w' 39 (.slice (some ⟨g, 0, none⟩) i cap) (M.take i) ∧ w.grownBy w' (some g) := by
  obtain ⟨i0, hi0, hz0, hz1, hz2⟩ := info_parts infoEvent
  have hn : n = M.length := h.is.1
  rcases h.2 with ⟨e, _⟩ | ⟨g', c', cur, e, hb, hg, hm, hmx, hs, ht⟩
  · simp at e
  · simp only [Value.slice.injEq, Option.some.injEq, Addr.mk.injEq] at e
    obtain ⟨⟨rfl, -, -⟩, hnn, rfl⟩ := e
    have hs9 : cur.size = cap * 9 := hs
    have ht9 : cur.toList.take (M.length * 9) = flatF evS M := ht
    have hcl : cur.toList.length = cap * 9 := by simpa using hs9
    have hbx : Box w g 39 cur.toList := by unfold Box; simpa using hg
    have own : ∀ (w' : World) (l : List Value), Box w' g 39 l → l.length = cap * 9 → l.take (i * 9) = cur.toList.take (i * 9) → ROwn evS B w' 39 (.slice (some ⟨g, 0, none⟩) i cap) (M.take i) := by
      intro w' l hb' hl htake
      have hlen : (M.take i).length = i := by rw [List.length_take]; omega
      unfold ROwn
      rw [hlen]
      refine ⟨by rw [flatF_len, hlen], .inr ⟨g, cap, l.toArray, rfl, hb, hb', by omega, hmx, (show l.toArray.size = cap * 9 by simpa using hl), ?_⟩⟩
      show l.take (i * 9) = flatF evS (M.take i)
      rw [htake]
      have h2 : flatF evS M = flatF evS (M.take i) ++ flatF evS (M.drop i) := by rw [← flatF_app, List.take_append_drop]
      have h3 : (cur.toList.take (i * 9)) = (flatF evS M).take (i * 9) := by
        rw [← ht9, List.take_take, Nat.min_eq_left (Nat.mul_le_mul_right 9 (by omega))]
      rw [h3, h2, List.take_append_of_le_length (by rw [flatF_len, hlen]; exact Nat.le_refl _)]
      exact List.take_of_length_le (by rw [flatF_len, hlen]; exact Nat.le_refl _)
    by_cases h0 : n - i = 0
    · refine ⟨w, ?_, own w cur.toList hbx (by simpa using hs9) rfl, World.grownBy.refl _ _⟩
      rw [h0]
      simp [Builtin.clear_, run_underlying Tryz.underlying28]
    · obtain ⟨zs, hzs⟩ : ∃ zs, zs = (Builtin.zeroCells (Value.agg #[.int .i64 0, .int .i64 0, .int .i64 0, .string ByteArray.empty, .int .i64 0, .int .i64 0, .int .i64 0, .int .i64 0, .int .i64 0]).cells (n - i)).toList := ⟨_, rfl⟩
      have hzl : zs.length = (n - i) * 9 := by rw [hzs]; exact zeros_len _
      have hz1' : ∀ v ∈ zs, v.oneCell' = true := by rw [hzs]; exact zeros_one _
      have hst := stores_at (P := Tryz.prog) (i * 9) zs 0 w cur.toList hbx (by rw [hzl, hcl]; have := Nat.mul_le_mul_right 9 (show i + (n - i) ≤ cap by omega); omega) hz1'
      refine ⟨storeMany w g (i * 9) zs, ?_, own _ _ (Box.store zs (i * 9) w cur.toList hbx) (by rw [setMany_length]; exact hcl) (setMany_take zs _ _ _ (Nat.le_refl _)), store_grown zs _ _⟩
      have hz3 : (zeroValue 39).run Tryz.prog w = .ok (.agg #[.int .i64 0, .int .i64 0, .int .i64 0, .string ByteArray.empty, .int .i64 0, .int .i64 0, .int .i64 0, .int .i64 0, .int .i64 0]) w := by
        unfold zeroValue
        simp [typeInfo, hi0, hz0]
      obtain ⟨q, hq⟩ : ∃ q, n - i = q + 1 := ⟨n - i - 1, by omega⟩
      rw [hq] at hzs ⊢
      rw [hzs] at hst
      simp only [Builtin.clear_, List.getElem?_toArray, List.getElem?_cons_zero, Sem.run_bind, run_underlying Tryz.underlying28, Result.andThen_ok, hz3, hst, Nat.add_zero, Sem.run_pure]
      rw [hzs]

end Go.Proofs.YtkndpkingmemoaaGreatDoor.Gat
namespace Go.Proofs.YtkndpkingmemoaaGreatDoor.Gat
open Go.RowKit
open Lnk (bOne bAfter IOwn IIs YOwn YIs below_keep below_drew' bcell low_after low_alloc grown_of_below)
set_option linter.unusedVariables false
set_option linter.unusedSimpArgs false

theorem wpList_clear_run {P : Program} {w : World} {ops : Array Oper} {rest : List Oper} {o : Oper} {a : Act} {Q : Exit → Act → World → Prop} (hgd : o.guard = none) (s : Operand) (t : TypeId)
    (ho : o.op = .call { callee := .builtin .clear, args := #[s], argTypes := #[t] }) (v : Value) (hs : a.eval s = v) {R : World → Prop}
    (hr : ∃ w', (Builtin.clear_ #[t] o.type #[v]).run P w = .ok (.tuple #[]) w' ∧ R w') (h : ∀ w', R w' → wpList P ops Q rest (a.put o.dst (.tuple #[])) w') : wpList P ops Q (o :: rest) a w :=
  wpList_plain hgd fun K hK => by
    obtain ⟨w', hr, h2⟩ := hr
    unfold Oper.wp execOp
    simp only [ho, resolve, invoke, builtin, Sem.run_bind, Sem.run_pure, Result.andThen_ok, List.map_toArray, List.map_cons, List.map_nil, hs, hr]
    exact hK _ _ (h w' h2)
/-- a row under way: the first i are those of the first j that stay -/
structure DelAt (ids : List Int) (E M : List Ev) (i j : Nat) : Prop where
  len : M.length = E.length
  ij : i < j
  jn : j ≤ E.length
  num : (keepL ids (E.take j)).length = i
  low : M.take i = keepL ids (E.take j)
  high : M.drop j = E.drop j
theorem DelAt.start {ids : List Int} {E : List Ev} {k : Nat} (hk : k < E.length) (h1 : hasI ids E[k].i = true) (h2 : ∀ x ∈ E.take k, hasI ids x.i = false) : DelAt ids E E k (k + 1) :=
  ⟨rfl, by omega, hk, by rw [keepL_snoc_no hk h1, keepL_all h2, List.length_take]; omega, by rw [keepL_snoc_no hk h1, keepL_all h2], rfl⟩
theorem DelAt.at {ids : List Int} {E M : List Ev} {i j : Nat} (h : DelAt ids E M i j) (hj : j < E.length) (hm : j < M.length) : M[j] = E[j] := by
  have h1 := congrArg (fun l => l[0]?) h.high
  simp only [List.getElem?_drop, Nat.add_zero] at h1
  rw [List.getElem?_eq_getElem hm, List.getElem?_eq_getElem hj] at h1
  injection h1
theorem DelAt.skip {ids : List Int} {E M : List Ev} {i j : Nat} (h : DelAt ids E M i j) (hj : j < E.length) (hx : hasI ids E[j].i = true) : DelAt ids E M i (j + 1) :=
  ⟨h.len, by have := h.ij; omega, hj, by rw [keepL_snoc_no hj hx]; exact h.num, by rw [keepL_snoc_no hj hx]; exact h.low, by
    have h1 := congrArg (List.drop 1) h.high
    rw [List.drop_drop, List.drop_drop] at h1
    exact h1⟩
theorem DelAt.keep {ids : List Int} {E M : List Ev} {i j : Nat} (h : DelAt ids E M i j) (hj : j < E.length) (hx : hasI ids E[j].i = false) : DelAt ids E (M.set i E[j]) (i + 1) (j + 1) := by
  have hl := h.len
  have hi := h.ij
  refine ⟨by rw [List.length_set]; exact hl, by omega, hj, by rw [keepL_snoc_yes hj hx, List.length_append, h.num]; rfl, ?_, ?_⟩
  · rw [List.take_succ_eq_append_getElem (by rw [List.length_set]; omega), List.getElem_set_self, List.take_set_of_le (Nat.le_refl _), h.low, keepL_snoc_yes hj hx]
  · have h1 := congrArg (List.drop 1) h.high
    rw [List.drop_drop, List.drop_drop] at h1
    rw [List.drop_set_of_lt (by omega)]
    exact h1

def DfEnd (B : Nat) (w : World) (ids : List Int) (ea : Option Addr) (ec : Nat) (E : List Ev) (e : Ending) (w' : World) : Prop :=
  e = .returned (.slice ea (keepL ids E).length ec) ∧ ROwn evS B w' 39 (.slice ea (keepL ids E).length ec) (keepL ids E) ∧ w.grownBy w' (Value.slice ea E.length ec).ownBlock
set_option maxRecDepth 100000 in
set_option maxHeartbeats 8000000 in
theorem deleteFn_any (w : World) (B kp Bi : Nat) (ia : Option Addr) (m ic : Nat) (ids : List Int) (ea : Option Addr) (ec : Nat) (E : List Ev) (h : IdB w kp Bi ia m ic ids) (hm : m ≤ 1048576) (he : ROwn evS B w 39 (.slice ea E.length ec) E) (hen : E.length ≤ 1048576) :
    Calls Tryz.prog 182 #[.slice ea E.length ec, .func (.func 183) #[] #[.pointer (some ⟨kp, 0, none⟩)]] w fun e w' => DfEnd B w ids ea ec E e w' := by
  have heg : ∀ (args : Array Value) (w1 : World), (callFunc 183 args).run Tryz.prog w1 = .ok (.enter 183 args) w1 := enters_of Tryz.func183 (by kernel_rfl) rfl
  have H := Lib.hid h
  have HE := Lib.hid he
  clear h he
  go_enter Tryz.func182, Tryz.ntmps182
  go_wp2_with fail
  refine (indexFn_any _ B kp Bi ia m ic ids ea ec E H.out hm HE.out.isN hen).mono ?_
  rintro e w1 ⟨⟨nn, rfl, hn⟩, hb⟩
  replace H := Lib.hid (H.out.below hb)
  replace HE := Lib.hid (HE.out.below hb)
  have HG := Lib.hid (grown_of_below hb (Value.slice ea E.length ec).ownBlock)
  clear hb
  rcases hn with ⟨rfl, hno⟩ | ⟨k, hk, rfl, hy, hno⟩
  · have HN := Lib.hid (keepL_all hno)
    clear hno
    go_wp2_with fail
    go_ret
    exact ⟨by rw [HN.out]; rfl, by rw [HN.out]; exact HE.out, HG.out⟩
  · obtain ⟨g, rfl, hg2⟩ := own_some HE.out (by omega)
    have HD := Lib.hid (DelAt.start hk hy hno)
    have hcap := HE.out.lecap
    have hke : ((k : Int) == -1) = false := by simp
    have hkb : (k : Int) ≤ 1048576 := by omega
    clear hno hy
    go_wp2_with fail
    go_loopw [5, 6] (fun ti tj wr => ∃ (i j : Nat) (M : List Ev), ti = .int .i64 i ∧ tj = .int .i64 j ∧ Hid (DelAt ids E M i j) ∧ Hid (ROwn evS B wr 39 (.slice (some ⟨g, 0, none⟩) E.length ec) M) ∧ Hid (w.grownBy wr (some g)) ∧ Hid (IdB wr kp Bi ia m ic ids) ∧ Hid (g < wr.heap.size)) (fun _ tj _ => E.length - (intOf tj).toNat)
    case atStart => exact ⟨k, k + 1, E, rfl, by go_num, HD, HE, HG, H, Lib.hid hg2⟩
    case round =>
      obtain ⟨i0, j, M, rfl, rfl, HD, HE, HG, H, HGW⟩ := hrel
      have hij := HD.out.ij
      have hjn := HD.out.jn
      by_cases hlt : (j : Int) < (E.length : Int)
      · have hjl : j < E.length := by omega
        have hjm : j < M.length := by rw [HD.out.len]; exact hjl
        obtain ⟨i, d, c, bd, at_, t, r, n, s, hej⟩ : ∃ i d c bd at_ t r n s, E[j] = ⟨i, d, c, bd, at_, t, r, n, s⟩ := ⟨_, _, _, _, _, _, _, _, _, rfl⟩
        have hmj := HD.out.at hjl hjm
        rw [hej] at hmj
        obtain ⟨c0, c1, c2, c3, c4, c5, c6, c7, c8⟩ := eown_cellx HE.out j hjm hmj
        have HEJ := Lib.hid hej
        clear hej hmj
        go_upto_region 8 with fail
        clear c0 c1 c2 c3 c4 c5 c6 c7 c8
        have hb := bOne wr (.cells #[.int .i64 i, .int .i64 d, .int .i64 c, .string bd, .int .i64 at_, .int .i64 t, .int .i64 r, .int .i64 n, .int .i64 s] 39)
        have HC := Lib.hid (Box.new wr [.int .i64 i, .int .i64 d, .int .i64 c, .string bd, .int .i64 at_, .int .i64 t, .int .i64 r, .int .i64 n, .int .i64 s] 39)
        replace H := Lib.hid (H.out.below hb)
        replace HE := Lib.hid (HE.out.below hb)
        replace HG := Lib.hid (HG.out.trans (grown_of_below hb _))
        clear hb
        obtain ⟨wk, hwk⟩ : ∃ V, V = wr.alloc (.cells #[.int .i64 i, .int .i64 d, .int .i64 c, .string bd, .int .i64 at_, .int .i64 t, .int .i64 r, .int .i64 n, .int .i64 s] 39) := ⟨_, rfl⟩
        obtain ⟨kt, hkt⟩ : ∃ k, k = wr.heap.size := ⟨_, rfl⟩
        have HTG := Lib.hid (show g < kt by rw [hkt]; exact HGW.out)
        rw [← hwk] at H HE HG HC ⊢
        rw [← hkt] at HC ⊢
        have HGK := Lib.hid (show g < wk.heap.size by have := HC.out.lt; have := HTG.out; omega)
        clear hwk hkt HGW
        go_wp2_with (first | (refine wpList_load_box rfl _ 39 rfl rfl HC.out _ Tryz.underlying39 sizeEvB ?_) | fail)
        refine (delFn_any _ kp Bi ia m ic ids i d c bd at_ t r n s H.out hm).mono ?_
        rintro e w2 ⟨rfl, hb⟩
        replace H := Lib.hid (H.out.below hb)
        replace HE := Lib.hid (HE.out.below hb)
        replace HC := Lib.hid (HC.out.below hb)
        replace HG := Lib.hid (HG.out.trans (grown_of_below hb _))
        replace HGK := Lib.hid (Nat.lt_of_lt_of_le HGK.out hb.size)
        clear hb
        cases hh : hasI ids i with
        | true =>
          have HD2 := Lib.hid (HD.out.skip hjl (by rw [HEJ.out]; exact hh))
          clear hh
          go_wp2_with fail
          go_roundw
          case rel => exact ⟨i0, j + 1, M, rfl, by go_num, HD2, HE, HG, H, HGK⟩
          case measure => simp [intOf]; omega
        | false =>
          have hd2 := HD.out.keep hjl (by rw [HEJ.out]; exact hh)
          rw [HEJ.out] at hd2
          have HD2 := Lib.hid hd2
          have him : i0 < M.length := by rw [HD.out.len]; omega
          have hie : (i0 : Int) < (E.length : Int) := by omega
          obtain ⟨⟨z0, z1, z2, z3, z4, z5, z6, z7, z8, d0, d1, d2, d3, d4, d5, d6, d7, d8⟩, f0, f1, f2, f3, f4, f5, f6, f7, f8⟩ := eown_at HE.out i0 him
          have hst := eown_set HE.out i0 him _ i d c bd at_ t r n s rfl
          have hat : (evR (.slice (some ⟨g, 0, none⟩) E.length ec) M).At B w2 := by
            have h1 := HE.out
            unfold ROwn at h1
            exact h1
          obtain ⟨w4, hw4⟩ : ∃ V, V = ((((((((w2.setCell ⟨g, i0 * 9, none⟩ (.int .i64 i)).setCell ⟨g, i0 * 9 + 1, none⟩ (.int .i64 d)).setCell ⟨g, i0 * 9 + 2, none⟩ (.int .i64 c)).setCell ⟨g, i0 * 9 + 3, none⟩ (.string bd)).setCell ⟨g, i0 * 9 + 4, none⟩ (.int .i64 at_)).setCell ⟨g, i0 * 9 + 5, none⟩ (.int .i64 t)).setCell ⟨g, i0 * 9 + 6, none⟩ (.int .i64 r)).setCell ⟨g, i0 * 9 + 7, none⟩ (.int .i64 n)).setCell ⟨g, i0 * 9 + 8, none⟩ (.int .i64 s) := ⟨_, rfl⟩
          rw [← hw4] at hst
          have HST := Lib.hid hst
          have HIB := Lib.hid (H.out.ev hat hst.2)
          have HW4 := Lib.hid hw4
          clear hh hd2 hst hat hw4 him
          go_upto_region 10 with (first | (refine wpList_load_box rfl _ 39 rfl rfl HC.out _ Tryz.underlying39 sizeEvB ?_) | fail)
          clear d0 d1 d2 d3 d4 d5 d6 d7 d8 f0 f1 f2 f3 f4 f5 f6 f7 f8
          rw [← HW4.out]
          go_wp2_with fail
          go_roundw
          case rel => exact ⟨i0 + 1, j + 1, _, by go_num, by go_num, HD2, Lib.hid HST.out.1, Lib.hid (HG.out.trans HST.out.2), HIB, Lib.hid (Nat.lt_of_lt_of_le HGK.out HST.out.2.size)⟩
          case measure => simp [intOf]; omega
      · have hje : j = E.length := by omega
        have HK := Lib.hid (show M.take i0 = keepL ids E by have h1 := HD.out.low; rw [hje, List.take_length] at h1; exact h1)
        have HKN := Lib.hid (show (keepL ids E).length = i0 by have h1 := HD.out.num; rw [hje, List.take_length] at h1; exact h1)
        have hie : (i0 : Int) ≤ (E.length : Int) := by omega
        have hic : (i0 : Int) ≤ (ec : Int) := by omega
        have hne : ¬ ec = i0 := by omega
        have HCL := Lib.hid (run_clear_row i0 0 HE.out (by omega))
        have hlo : (E.length : Int) ≤ (ec : Int) := by omega
        go_upto_region 12 with (first | (refine wpList_clear_run rfl _ _ rfl _ rfl HCL.out ?_; intro w5 h5; have H5 := Lib.hid h5; clear h5) | fail)
        have HGG := Lib.hid (HG.out.trans H5.out.2)
        have HOO := Lib.hid (show ROwn evS B w5 39 (.slice (some ⟨g, 0, none⟩) (keepL ids E).length ec) (keepL ids E) by
          have h1 := H5.out.1
          rw [HK.out] at h1
          rw [HKN.out]
          exact h1)
        clear H5 HG HE HCL HK HD H
        simp only [Act.put]
        go_wp2_with fail
        go_ret
        exact ⟨by rw [HKN.out]; rfl, HOO.out, HGG.out⟩

end Go.Proofs.YtkndpkingmemoaaGreatDoor.Gat
namespace Go.Proofs.YtkndpkingmemoaaGreatDoor.Gat
open Go.RowKit
open Lnk (bOne bAfter IOwn IIs YOwn YIs below_keep below_drew' bcell low_after low_alloc grown_of_below)
set_option linter.unusedVariables false
set_option linter.unusedSimpArgs false

theorem gRows_rowTy {ev lk lf lt : Value} {vs : List Value} {E : List Ev} {K : List Lk} {F R : List Int} : ∀ r ∈ gRows ev lk lf lt vs E K F R, rowTy r.E = true := by
  intro r hr
  unfold gRows at hr
  simp only [List.mem_cons] at hr
  rcases hr with rfl | rfl | rfl | rfl | hr
  · rfl
  · rfl
  · rfl
  · rfl
  · rw [flRs_ty hr]; rfl
/-- a box of another type was written -/
theorem GOwn.offbox4 {B : Nat} {w w' : World} {ev lk lf lt : Value} {vs : List Value} {E : List Ev} {K : List Lk} {F R : List Int} {k : Nat} {T : TypeId} {l : List Value} (h : GOwn B w ev lk lf lt vs E K F R) (hb : Box w k T l) (hT : rowTy T = false) (hg : w.grownBy w' (some k)) : GOwn B w' ev lk lf lt vs E K F R :=
  ⟨h.rows.offbox hb (fun r hr e => by have h1 := gRows_rowTy r hr; rw [e, hT] at h1; cases h1) hg, h.len, h.body⟩

set_option maxRecDepth 100000 in
set_option maxHeartbeats 4000000 in
theorem keepRemove_any (w : World) (B Bi kb : Nat) (T : TypeId) (rest : List Value) (de qu wi ti qa bu le pb pc pj pt nw la : Int) (ea : Option Addr) (ec : Nat) (ka : Option Addr) (kc : Nat) (tu : Int) (fa : Option Addr) (fc : Nat) (ra : Option Addr) (rc : Nat) (tk ac dr : Int) (vs : List Value) (E : List Ev) (K : List Lk) (F R : List Int) (ia : Option Addr) (ic : Nat) (ids : List Int) (hx : Box w kb T ([.int .i64 de, .int .i64 qu, .int .i64 wi, .int .i64 ti, .int .i64 qa, .int .i64 bu, .int .i64 le, .int .i64 pb, .int .i64 pc, .int .i64 pj, .int .i64 pt, .int .i64 nw, .int .i64 la, .slice ea E.length ec, .slice ka K.length kc, .int .i64 tu, .slice fa F.length fc, .slice ra R.length rc, .int .i64 tk, .int .i64 ac, .int .i64 dr] ++ rest)) (hT : rowTy T = false) (hkb : B ≤ kb) (h : GOwn B w (.slice ea E.length ec) (.slice ka K.length kc) (.slice fa F.length fc) (.slice ra R.length rc) vs E K F R) (hB : B ≤ w.heap.size) (hi : (inR (.slice ia ids.length ic) ids).At Bi w) (hen : E.length ≤ 1048576) (hil : ids.length ≤ 1048576) :
    Calls Tryz.prog 166 #[.pointer (some ⟨kb, 0, none⟩), .slice ia ids.length ic] w fun e w' => e = .returned (.tuple #[]) ∧ Box w' kb T ([.int .i64 de, .int .i64 qu, .int .i64 wi, .int .i64 ti, .int .i64 qa, .int .i64 bu, .int .i64 le, .int .i64 pb, .int .i64 pc, .int .i64 pj, .int .i64 pt, .int .i64 nw, .int .i64 la, .slice ea (keepL ids E).length ec, .slice ka K.length kc, .int .i64 tu, .slice fa F.length fc, .slice ra R.length rc, .int .i64 tk, .int .i64 ac, .int .i64 dr] ++ rest) ∧ GOwn B w' (.slice ea (keepL ids E).length ec) (.slice ka K.length kc) (.slice fa F.length fc) (.slice ra R.length rc) vs (keepL ids E) K F R ∧ Below B w w' := by
  have hmf : ∀ (fn : Fn) (first cap : Array Value) (w : World), (Instr.makeFunc fn first cap).run Tryz.prog w = .ok (.func fn first cap) w := fun _ _ _ _ => rfl
  have hb := bOne w (.cells #[.slice ia ids.length ic] 30)
  have HX := Lib.hid (hx.below hb)
  have HO := Lib.hid (h.below hb)
  have HID := Lib.hid (show IdB (w.alloc (.cells #[.slice ia ids.length ic] 30)) w.heap.size Bi ia ids.length ic ids from ⟨Box.new w [.slice ia ids.length ic] _, inR_below hi hb⟩)
  have HL := Lib.hid (hb.mono hB)
  have HBW := Lib.hid (Nat.le_trans hB hb.size)
  have HBY := Lib.hid h.body
  clear hx h hi hb
  have c13 := HX.out.cell 13 _ rfl
  go_enter Tryz.func166, Tryz.ntmps166
  go_wp2_with fail
  clear c13
  refine (deleteFn_any _ B w.heap.size Bi ia ids.length ic ids ea ec E HID.out hil HO.out.evO hen).mono ?_
  rintro e w1 ⟨rfl, ho, hg⟩
  have hat : (evR (.slice ea E.length ec) E).At B (w.alloc (.cells #[.slice ia ids.length ic] 30)) := HO.out.rows.at_ _ (by simp [gRows])
  replace HX := Lib.hid (HX.out.grown hg (hat.ne_box rfl HX.out hT))
  replace HL := Lib.hid (HL.out.grown hg HBW.out (fun q e => (hat.lt q e).1))
  replace HBW := Lib.hid (Nat.le_trans HBW.out hg.size)
  replace HO := Lib.hid (HO.out.setEv hg ho (.inl (by cases ea <;> rfl)) (keepL_body HBY.out))
  clear ho hg hat HID
  have d13 := HX.out.cell 13 _ rfl
  have f13 := HX.out.frozen 13
  go_wp2_with fail
  obtain ⟨V, hV⟩ : ∃ V, V = w1.setCell ⟨kb, 13, none⟩ (.slice ea (keepL ids E).length ec) := ⟨_, rfl⟩
  have hg : w1.grownBy V (some kb) := by rw [hV]; exact store_grown [.slice ea (keepL ids E).length ec] 13 _
  have hx2 : Box V kb T ([.int .i64 de, .int .i64 qu, .int .i64 wi, .int .i64 ti, .int .i64 qa, .int .i64 bu, .int .i64 le, .int .i64 pb, .int .i64 pc, .int .i64 pj, .int .i64 pt, .int .i64 nw, .int .i64 la, .slice ea (keepL ids E).length ec, .slice ka K.length kc, .int .i64 tu, .slice fa F.length fc, .slice ra R.length rc, .int .i64 tk, .int .i64 ac, .int .i64 dr] ++ rest) := by rw [hV]; exact Box.store [.slice ea (keepL ids E).length ec] 13 _ _ HX.out
  have ho2 := (GOwn.offbox4 HO.out HX.out hT hg)
  have hl2 : Below B w V := HL.out.grown hg HBW.out (fun q e => by cases e; exact hkb)
  exact bodyPost_end (v := .tuple #[]) (by simp [results, Tryz.results166]) rfl ⟨rfl, by rw [← hV]; exact hx2, by rw [← hV]; exact ho2, by rw [← hV]; exact hl2⟩

end Go.Proofs.YtkndpkingmemoaaGreatDoor.Gat
namespace Go.Proofs.YtkndpkingmemoaaGreatDoor.Gat
open Go.RowKit
open Lnk (bOne bAfter IOwn IIs YOwn YIs below_keep below_drew' bcell low_after low_alloc grown_of_below)
set_option linter.unusedVariables false
set_option linter.unusedSimpArgs false

theorem body_app {E : List Ev} {x : Ev} (h : ∀ e ∈ E, e.b.size ≤ maxLen) (hx : x.b.size ≤ maxLen) : ∀ e ∈ E ++ [x], e.b.size ≤ maxLen := by
  intro e he
  rcases List.mem_append.1 he with he | he
  · exact h e he
  · rw [List.mem_singleton.1 he]; exact hx
set_option maxRecDepth 100000 in
set_option maxHeartbeats 8000000 in
theorem take_any (w : World) (B kb : Nat) (de qu wi ti qa bu le pb pc pj pt nw la : Int) (ea : Option Addr) (ec : Nat) (ka : Option Addr) (kc : Nat) (tu : Int) (fa : Option Addr) (fc : Nat) (ra : Option Addr) (rc : Nat) (tk ac dr : Int) (vs : List Value) (E : List Ev) (K : List Lk) (F R : List Int) (hE : ∀ e ∈ E, (Lit.int .i64 e.i).wf = true) (hR : ∀ x ∈ R, (Lit.int .i64 x).wf = true) (i d c : Int) (bd : ByteArray) (at_ t r n s : Int) (hbd : bd.size ≤ maxLen) (hx : Box w kb 72 [.int .i64 de, .int .i64 qu, .int .i64 wi, .int .i64 ti, .int .i64 qa, .int .i64 bu, .int .i64 le, .int .i64 pb, .int .i64 pc, .int .i64 pj, .int .i64 pt, .int .i64 nw, .int .i64 la, .slice ea E.length ec, .slice ka K.length kc, .int .i64 tu, .slice fa F.length fc, .slice ra R.length rc, .int .i64 tk, .int .i64 ac, .int .i64 dr]) (hkb : B ≤ kb) (h : GOwn B w (.slice ea E.length ec) (.slice ka K.length kc) (.slice fa F.length fc) (.slice ra R.length rc) vs E K F R) (hB : B ≤ w.heap.size) (hs : Small E.length K.length F.length R.length K) (htk : (subC (gokB de qu wi ti qa bu le pb pc pj pt nw la E.length K.length tu F.length R.length tk ac dr E K F R) nw de d c bd.size pt t qu E.length la E = 0 → 0 ≤ tk ∧ tk ≤ 9999)) :
    Calls Tryz.prog 36 #[.pointer (some ⟨kb, 0, none⟩), .agg #[.int .i64 i, .int .i64 d, .int .i64 c, .string bd, .int .i64 at_, .int .i64 t, .int .i64 r, .int .i64 n, .int .i64 s]] w fun e w' => (subC (gokB de qu wi ti qa bu le pb pc pj pt nw la E.length K.length tu F.length R.length tk ac dr E K F R) nw de d c bd.size pt t qu E.length la E ≠ 0 → e = .returned (.tuple #[.int .i64 0, errV (subC (gokB de qu wi ti qa bu le pb pc pj pt nw la E.length K.length tu F.length R.length tk ac dr E K F R) nw de d c bd.size pt t qu E.length la E)]) ∧ Box w' kb 72 [.int .i64 de, .int .i64 qu, .int .i64 wi, .int .i64 ti, .int .i64 qa, .int .i64 bu, .int .i64 le, .int .i64 pb, .int .i64 pc, .int .i64 pj, .int .i64 pt, .int .i64 nw, .int .i64 la, .slice ea E.length ec, .slice ka K.length kc, .int .i64 tu, .slice fa F.length fc, .slice ra R.length rc, .int .i64 tk, .int .i64 ac, .int .i64 dr] ∧ GOwn B w' (.slice ea E.length ec) (.slice ka K.length kc) (.slice fa F.length fc) (.slice ra R.length rc) vs E K F R ∧ Below B w w') ∧ (subC (gokB de qu wi ti qa bu le pb pc pj pt nw la E.length K.length tu F.length R.length tk ac dr E K F R) nw de d c bd.size pt t qu E.length la E = 0 → ∃ ea2 ec2, e = .returned (.tuple #[.int .i64 i, errV 0]) ∧ Box w' kb 72 [.int .i64 de, .int .i64 qu, .int .i64 wi, .int .i64 ti, .int .i64 qa, .int .i64 bu, .int .i64 le, .int .i64 pb, .int .i64 pc, .int .i64 pj, .int .i64 pt, .int .i64 nw, .int .i64 i, .slice ea2 (E.length + 1) ec2, .slice ka K.length kc, .int .i64 tu, .slice fa F.length fc, .slice ra R.length rc, .int .i64 (tk + 1), .int .i64 ac, .int .i64 dr] ∧ GOwn B w' (.slice ea2 (E.length + 1) ec2) (.slice ka K.length kc) (.slice fa F.length fc) (.slice ra R.length rc) vs (E ++ [⟨i, d, c, bd, at_, t, r, n, s⟩]) K F R ∧ Below B w w') := by
  obtain ⟨W0, hW0⟩ : ∃ W, W = w.alloc (.cells #[.int .i64 i, .int .i64 d, .int .i64 c, .string bd, .int .i64 at_, .int .i64 t, .int .i64 r, .int .i64 n, .int .i64 s] 39) := ⟨_, rfl⟩
  have hb := bOne w (.cells #[.int .i64 i, .int .i64 d, .int .i64 c, .string bd, .int .i64 at_, .int .i64 t, .int .i64 r, .int .i64 n, .int .i64 s] 39)
  have HC : Hid (Box W0 w.heap.size 39 [.int .i64 i, .int .i64 d, .int .i64 c, .string bd, .int .i64 at_, .int .i64 t, .int .i64 r, .int .i64 n, .int .i64 s]) := Lib.hid (by rw [hW0]; exact Box.new w [.int .i64 i, .int .i64 d, .int .i64 c, .string bd, .int .i64 at_, .int .i64 t, .int .i64 r, .int .i64 n, .int .i64 s] 39)
  have HNE := Lib.hid (show (Value.slice ea E.length ec).ownBlock ≠ some w.heap.size from fun e => by have := (World.ownsRow.lt h.evO w.heap.size e).2; omega)
  have HKE := Lib.hid (show kb < w.heap.size from World.block_lt_of_cell? _ _ (hx.cell 0 _ rfl))
  rw [← hW0] at hb
  have HX := Lib.hid (hx.below hb)
  have HO := Lib.hid (h.below hb)
  have HL := Lib.hid (hb.mono hB)
  have HBW := Lib.hid (Nat.le_trans hB hb.size)
  have HWE := Lib.hid hW0
  have HSM := Lib.hid hs
  have HBD := Lib.hid hbd
  have HKB := Lib.hid hkb
  have hEx := Lib.hid hE
  have hRx := Lib.hid hR
  have HTK := Lib.hid htk
  have hen : E.length ≤ 1048576 := hs.1
  obtain ⟨cd, hcd⟩ : ∃ x, x = subC (gokB de qu wi ti qa bu le pb pc pj pt nw la E.length K.length tu F.length R.length tk ac dr E K F R) nw de d c bd.size pt t qu E.length la E := ⟨_, rfl⟩
  rw [← hcd] at HTK ⊢
  have HCD := Lib.hid hcd
  obtain ⟨ke, hke⟩ : ∃ k, k = w.heap.size := ⟨_, rfl⟩
  rw [← hke] at HC HNE HKE
  clear hx h hb hW0 hs hE hR hcd htk hbd
  go_enter Tryz.func36, Tryz.ntmps36
  go_upto_region 1 with fail
  rw [← HWE.out, ← hke]
  clear HWE hke
  have hb := below_drew' (Below.refl W0.heap.size W0)
  replace HX := Lib.hid (HX.out.below hb)
  replace HO := Lib.hid (HO.out.below hb)
  replace HC := Lib.hid (HC.out.below hb)
  replace HL := Lib.hid (HL.out.trans (hb.mono HBW.out))
  replace HBW := Lib.hid (Nat.le_trans HBW.out hb.size)
  clear hb
  refine wp_region_held_drew (S := fun w' => Box w' kb 72 [.int .i64 de, .int .i64 qu, .int .i64 wi, .int .i64 ti, .int .i64 qa, .int .i64 bu, .int .i64 le, .int .i64 pb, .int .i64 pc, .int .i64 pj, .int .i64 pt, .int .i64 nw, .int .i64 la, .slice ea E.length ec, .slice ka K.length kc, .int .i64 tu, .slice fa F.length fc, .slice ra R.length rc, .int .i64 tk, .int .i64 ac, .int .i64 dr] ∧ Box w' ke 39 [.int .i64 i, .int .i64 d, .int .i64 c, .string bd, .int .i64 at_, .int .i64 t, .int .i64 r, .int .i64 n, .int .i64 s]) (by kernel_rfl) ⟨HX.out, HC.out⟩ (fun hHeld => ?_)
  obtain ⟨wd, hwd⟩ : ∃ x, x = W0.drew := ⟨_, rfl⟩
  rw [← hwd] at HX HO HL HBW HC hHeld ⊢
  clear hwd
  refine wpAnyH_take (i := 0) (oi := { dst := some _, op := _, type := _, pos := _, after := _, guard := _ }) (v := ?_) rfl (by kernel_rfl) (by kernel_rfl) (by kernel_rfl) (fun _ _ _ h => h) ?_ (by with_reducible assumption) ?_
  rotate_left 1
  focus (refine Or.inl ⟨by rfl, ?_⟩; intro wq hSw; go_simp; try with_reducible rfl)
  try simp only [Act.put, List.setIfInBounds_toArray, List.set_cons_zero, List.set_cons_succ]
  refine wpAnyH_take (i := 1) (oi := { dst := some _, op := _, type := _, pos := _, after := _, guard := _ }) (v := ?_) rfl (by kernel_rfl) (by kernel_rfl) (by kernel_rfl) (fun _ _ _ h => h) ?_ (by with_reducible assumption) ?_
  rotate_left 1
  focus (refine Or.inl ⟨by rfl, ?_⟩; intro wq hSw; go_simp; try with_reducible rfl)
  try simp only [Act.put, List.setIfInBounds_toArray, List.set_cons_zero, List.set_cons_succ]
  refine wpAnyH_take (i := 2) (oi := { dst := some _, op := _, type := _, pos := _, after := _, guard := _ }) (v := ?_) rfl (by kernel_rfl) (by kernel_rfl) (by kernel_rfl) (fun _ _ _ h => h) ?_ (by with_reducible assumption) ?_
  rotate_left 1
  focus (refine Or.inl ⟨by rfl, ?_⟩; intro wq hSw; go_simp; try with_reducible rfl)
  try simp only [Act.put, List.setIfInBounds_toArray, List.set_cons_zero, List.set_cons_succ]
  refine wpAnyH_take (i := 3) (oi := { dst := some _, op := _, type := _, pos := _, after := _, guard := _ }) (v := ?_) rfl (by kernel_rfl) (by kernel_rfl) (by kernel_rfl) (fun _ _ _ h => h) ?_ (by with_reducible assumption) ?_
  rotate_left 1
  focus (refine Or.inl ⟨by rfl, ?_⟩; intro wq hSw; refine exec_load_box ?_ 32 ?_ ?_ hSw.1 _ Tryz.underlying32 sizeGate; rotate_left 1; rfl; rfl)
  try simp only [Act.put, List.setIfInBounds_toArray, List.set_cons_zero, List.set_cons_succ]
  refine wpAnyH_take (i := 4) (oi := { dst := some _, op := _, type := _, pos := _, after := _, guard := _ }) (v := ?_) rfl (by kernel_rfl) (by kernel_rfl) (by kernel_rfl) (fun _ _ _ h => h) ?_ (by with_reducible assumption) ?_
  rotate_left 1
  focus (refine Or.inl ⟨by rfl, ?_⟩; intro wq hSw; refine exec_load_box ?_ 39 ?_ ?_ hSw.2 _ Tryz.underlying39 sizeEvB; rotate_left 1; rfl; rfl)
  try simp only [Act.put, List.setIfInBounds_toArray, List.set_cons_zero, List.set_cons_succ]
  refine wpAnyH_ready (rs := [5]) (by kernel_rfl) (by simp) ?_
  refine AllReadyH.cons rfl (fun KR hKR => ?_) AllReadyH.nil
  go_simp
  refine (refusal_any _ de qu wi ti qa bu le pb pc pj pt nw la ea E.length ec ka K.length kc tu fa F.length fc ra R.length rc tk ac dr E K F R hEx.out hRx.out i d c bd at_ t r n s HBD.out HO.out.is HSM.out).mono ?_
  rintro e w1 ⟨rfl, hb⟩
  replace HX := Lib.hid (HX.out.below hb)
  replace HO := Lib.hid (HO.out.below hb)
  replace HC := Lib.hid (HC.out.below hb)
  replace HL := Lib.hid (HL.out.trans (hb.mono HBW.out))
  replace HBW := Lib.hid (Nat.le_trans HBW.out hb.size)
  clear hb hHeld
  rw [← HCD.out]
  dsimp only
  refine hKR.out _ _ (⟨HX.out, HC.out⟩) (fun hHeld => ?_)
  clear hKR
  try simp only [Act.put, List.setIfInBounds_toArray, List.set_cons_zero, List.set_cons_succ]
  refine wpAnyH_take (i := 6) (oi := { dst := some _, op := _, type := _, pos := _, after := _, guard := _ }) (v := ?_) rfl (by kernel_rfl) (by kernel_rfl) (by kernel_rfl) (fun _ _ _ h => h) ?_ (by with_reducible assumption) ?_
  rotate_left 1
  focus (refine Or.inl ⟨by rfl, ?_⟩; intro wq hSw; go_simp; try with_reducible rfl)
  try simp only [Act.put, List.setIfInBounds_toArray, List.set_cons_zero, List.set_cons_succ]
  refine wpAnyH_done (by kernel_rfl) ?_ _
  clear hHeld
  by_cases h0 : cd = 0
  · subst h0
    have htk := HTK.out rfl
    have htk0 := htk.1
    have htk1 := htk.2
    clear htk
    rw [show errV 0 = .nilIface from rfl]
    go_upto_region 4 with fail
    have hb := below_drew' (Below.refl w1.heap.size w1)
    replace HX := Lib.hid (HX.out.below hb)
    replace HO := Lib.hid (HO.out.below hb)
    replace HC := Lib.hid (HC.out.below hb)
    replace HL := Lib.hid (HL.out.trans (hb.mono HBW.out))
    replace HBW := Lib.hid (Nat.le_trans HBW.out hb.size)
    clear hb
    refine wp_region_held_drew (S := fun w' => Box w' ke 39 [.int .i64 i, .int .i64 d, .int .i64 c, .string bd, .int .i64 at_, .int .i64 t, .int .i64 r, .int .i64 n, .int .i64 s]) (by kernel_rfl) HC.out (fun hHeld => ?_)
    obtain ⟨w5, hw5⟩ : ∃ x, x = w1.drew := ⟨_, rfl⟩
    rw [← hw5] at HX HO HL HBW HC hHeld ⊢
    clear hw5
    refine wpAnyH_take (i := 0) (oi := { dst := some _, op := _, type := _, pos := _, after := _, guard := _ }) (v := ?_) rfl (by kernel_rfl) (by kernel_rfl) (by kernel_rfl) (fun _ _ _ h => h) ?_ (by with_reducible assumption) ?_
    rotate_left 1
    focus (refine Or.inl ⟨by rfl, ?_⟩; intro wq hSw; go_simp; try with_reducible rfl)
    try simp only [Act.put, List.setIfInBounds_toArray, List.set_cons_zero, List.set_cons_succ]
    refine wpAnyH_take (i := 1) (oi := { dst := some _, op := _, type := _, pos := _, after := _, guard := _ }) (v := ?_) rfl (by kernel_rfl) (by kernel_rfl) (by kernel_rfl) (fun _ _ _ h => h) ?_ (by with_reducible assumption) ?_
    rotate_left 1
    focus (refine Or.inl ⟨by rfl, ?_⟩; intro wq hSw; go_simp; try with_reducible rfl)
    try simp only [Act.put, List.setIfInBounds_toArray, List.set_cons_zero, List.set_cons_succ]
    refine wpAnyH_take (i := 2) (oi := { dst := some _, op := _, type := _, pos := _, after := _, guard := _ }) (v := ?_) rfl (by kernel_rfl) (by kernel_rfl) (by kernel_rfl) (fun _ _ _ h => h) ?_ (by with_reducible assumption) ?_
    rotate_left 1
    focus (refine Or.inl ⟨by rfl, ?_⟩; intro wq hSw; go_simp; try with_reducible rfl)
    try simp only [Act.put, List.setIfInBounds_toArray, List.set_cons_zero, List.set_cons_succ]
    refine wpAnyH_take (i := 3) (oi := { dst := some _, op := _, type := _, pos := _, after := _, guard := _ }) (v := ?_) rfl (by kernel_rfl) (by kernel_rfl) (by kernel_rfl) (fun _ _ _ h => h) ?_ (by with_reducible assumption) ?_
    rotate_left 1
    focus (refine Or.inl ⟨by rfl, ?_⟩; intro wq hSw; go_simp; try with_reducible rfl)
    try simp only [Act.put, List.setIfInBounds_toArray, List.set_cons_zero, List.set_cons_succ]
    refine wpAnyH_take (i := 4) (oi := { dst := some _, op := _, type := _, pos := _, after := _, guard := _ }) (v := ?_) rfl (by kernel_rfl) (by kernel_rfl) (by kernel_rfl) (fun _ _ _ h => h) ?_ (by with_reducible assumption) ?_
    rotate_left 1
    focus (refine Or.inl ⟨by rfl, ?_⟩; intro wq hSw; go_simp; try with_reducible rfl)
    try simp only [Act.put, List.setIfInBounds_toArray, List.set_cons_zero, List.set_cons_succ]
    refine wpAnyH_take (i := 6) (oi := { dst := some _, op := _, type := _, pos := _, after := _, guard := _ }) (v := ?_) rfl (by kernel_rfl) (by kernel_rfl) (by kernel_rfl) (fun _ _ _ h => h) ?_ (by with_reducible assumption) ?_
    rotate_left 1
    focus (refine Or.inl ⟨by rfl, ?_⟩; intro wq hSw; refine exec_load_box ?_ 39 ?_ ?_ hSw _ Tryz.underlying39 sizeEvB; rotate_left 1; rfl; rfl)
    try simp only [Act.put, List.setIfInBounds_toArray, List.set_cons_zero, List.set_cons_succ]
    refine wpAnyH_ready (rs := [5, 7]) (by kernel_rfl) (by simp) ?_
    refine AllReadyH.cons rfl (fun KL hKL => ?_) ?_
    · have o13 := HX.out.cell 13 _ rfl
      go_simp
      refine hKL.out _ _ (HC.out) (fun hHeld => ?_)
      clear hKL
      try simp only [Act.put, List.setIfInBounds_toArray, List.set_cons_zero, List.set_cons_succ]
      clear o13
      refine wpAnyH_ready (rs := [7]) (by kernel_rfl) (by simp) ?_
      refine AllReadyH.cons rfl (fun KB hKB => ?_) AllReadyH.nil
      go_simp
      have hb := bOne w5 (.cells #[.int .i64 i, .int .i64 d, .int .i64 c, .string bd, .int .i64 at_, .int .i64 t, .int .i64 r, .int .i64 n, .int .i64 s] 39)
      have HT1 := Lib.hid (ris_ev w5 39 ⟨i, d, c, bd, at_, t, r, n, s⟩)
      replace HX := Lib.hid (HX.out.below hb)
      replace HO := Lib.hid (HO.out.below hb)
      replace HC := Lib.hid (HC.out.below hb)
      replace HL := Lib.hid (HL.out.trans (hb.mono HBW.out))
      replace HBW := Lib.hid (Nat.le_trans HBW.out hb.size)
      clear hb hHeld
      refine hKB.out _ _ (HC.out) (fun hHeld => ?_)
      clear hKB
      try simp only [Act.put, List.setIfInBounds_toArray, List.set_cons_zero, List.set_cons_succ]
      refine wpAnyH_ready (rs := [8]) (by kernel_rfl) (by simp) ?_
      refine AllReadyH.cons rfl (fun KP hKP => ?_) AllReadyH.nil
      have HAP := Lib.hid (app_row (T := 28) (ty := 28) (cap := 1) (len := 1) evS Tryz.underlying28 infoEvent evZ (by decide) (by omega) HO.out.evO HT1.out (flat_ev_one _) (by omega) HBW.out)
      refine Lnk.step_append_run rfl (.tmp 21) (.tmp 23) _ rfl (.slice ea E.length ec) (.slice (some ⟨w5.heap.size, 0, none⟩) 1 1) (by simp [Act.eval, Act.put]) (by simp [Act.eval, Act.put]) HAP.out ?_
      intro v' v3 happ
      obtain ⟨ea2, ec2, rfl⟩ := ROwn.shapeL happ.1 (E.length + 1) (by rw [List.length_append]; rfl)
      have hgz := happ.2.1
      have HOn := Lib.hid (HO.out.setEv hgz happ.1 happ.2.2 (body_app HO.out.body HBD.out))
      have hkb : ∀ z, (Value.slice ea E.length ec).ownBlock = some z → B ≤ z := fun z hz => (World.ownsRow.lt HO.out.evO z hz).1
      have hne : some ke ≠ (Value.slice ea E.length ec).ownBlock := fun e => HNE.out e.symm
      replace HX := Lib.hid (HX.out.grown hgz ((evR_at.2 HO.out.evO).ne_box rfl HX.out rfl))
      replace HC := Lib.hid (HC.out.grown hgz hne)
      replace HL := Lib.hid (HL.out.grown hgz HBW.out (fun z hz => hkb z hz))
      replace HBW := Lib.hid (Nat.le_trans HBW.out hgz.size)
      clear happ hgz hkb hne hHeld HT1 HAP HO
      refine hKP.out _ _ (HC.out) (fun hHeld => ?_)
      clear hKP
      try simp only [Act.put, List.setIfInBounds_toArray, List.set_cons_zero, List.set_cons_succ]
      refine wpAnyH_take (i := 9) (oi := { dst := some _, op := _, type := _, pos := _, after := _, guard := _ }) (v := ?_) rfl (by kernel_rfl) (by kernel_rfl) (by kernel_rfl) (fun _ _ _ h => h) ?_ (by with_reducible assumption) ?_
      rotate_left 1
      focus (refine Or.inl ⟨by rfl, ?_⟩; intro wq hSw; go_simp; try with_reducible rfl)
      try simp only [Act.put, List.setIfInBounds_toArray, List.set_cons_zero, List.set_cons_succ]
      refine wpAnyH_take (i := 10) (oi := { dst := some _, op := _, type := _, pos := _, after := _, guard := _ }) (v := ?_) rfl (by kernel_rfl) (by kernel_rfl) (by kernel_rfl) (fun _ _ _ h => h) ?_ (by with_reducible assumption) ?_
      rotate_left 1
      focus (refine Or.inl ⟨by rfl, ?_⟩; intro wq hSw; go_simp; try with_reducible rfl)
      try simp only [Act.put, List.setIfInBounds_toArray, List.set_cons_zero, List.set_cons_succ]
      refine wpAnyH_take (i := 11) (oi := { dst := some _, op := _, type := _, pos := _, after := _, guard := _ }) (v := ?_) rfl (by kernel_rfl) (by kernel_rfl) (by kernel_rfl) (fun _ _ _ h => h) ?_ (by with_reducible assumption) ?_
      rotate_left 1
      focus (refine Or.inl ⟨by rfl, ?_⟩; intro wq hSw; go_simp; try with_reducible rfl)
      try simp only [Act.put, List.setIfInBounds_toArray, List.set_cons_zero, List.set_cons_succ]
      refine wpAnyH_ready (rs := [12]) (by kernel_rfl) (by simp) ?_
      refine AllReadyH.cons rfl (fun KS hKS => ?_) AllReadyH.nil
      have o13 := HX.out.cell 13 _ rfl
      have g13 := HX.out.frozen 13
      go_simp
      obtain ⟨v4, hV⟩ : ∃ V, V = v3.setCell ⟨kb, 13, none⟩ (.slice ea2 (E.length + 1) ec2) := ⟨_, rfl⟩
      rw [← hV]
      have hg : v3.grownBy v4 (some kb) := by rw [hV]; exact store_grown [.slice ea2 (E.length + 1) ec2] 13 _
      have hne : some ke ≠ some kb := fun e => by injection e; have := HKE.out; omega
      have HO := Lib.hid (GOwn.offbox4 HOn.out HX.out rfl hg)
      replace HX := Lib.hid (show Box v4 kb 72 [.int .i64 de, .int .i64 qu, .int .i64 wi, .int .i64 ti, .int .i64 qa, .int .i64 bu, .int .i64 le, .int .i64 pb, .int .i64 pc, .int .i64 pj, .int .i64 pt, .int .i64 nw, .int .i64 la, .slice ea2 (E.length + 1) ec2, .slice ka K.length kc, .int .i64 tu, .slice fa F.length fc, .slice ra R.length rc, .int .i64 tk, .int .i64 ac, .int .i64 dr] by rw [hV]; exact Box.store [.slice ea2 (E.length + 1) ec2] 13 _ _ HX.out)
      replace HC := Lib.hid (HC.out.grown hg hne)
      replace HL := Lib.hid (HL.out.grown hg HBW.out (fun q e => by cases e; exact HKB.out))
      replace HBW := Lib.hid (Nat.le_trans HBW.out hg.size)
      clear hV hg hne
      clear o13 g13 hHeld HOn
      refine hKS.out _ _ (HC.out) (fun hHeld => ?_)
      clear hKS
      try simp only [Act.put, List.setIfInBounds_toArray, List.set_cons_zero, List.set_cons_succ]
      refine wpAnyH_done (by kernel_rfl) ?_ _
      clear hHeld
      have e0 := HC.out.cell 0 _ rfl
      have o12 := HX.out.cell 12 _ rfl
      have g12 := HX.out.frozen 12
      go_upto_region 6 with fail
      clear e0 o12 g12
      obtain ⟨v5, hV⟩ : ∃ V, V = v4.setCell ⟨kb, 12, none⟩ (.int .i64 i) := ⟨_, rfl⟩
      rw [← hV]
      have hg : v4.grownBy v5 (some kb) := by rw [hV]; exact store_grown [.int .i64 i] 12 _
      have hne : some ke ≠ some kb := fun e => by injection e; have := HKE.out; omega
      replace HO := Lib.hid (GOwn.offbox4 HO.out HX.out rfl hg)
      replace HX := Lib.hid (show Box v5 kb 72 [.int .i64 de, .int .i64 qu, .int .i64 wi, .int .i64 ti, .int .i64 qa, .int .i64 bu, .int .i64 le, .int .i64 pb, .int .i64 pc, .int .i64 pj, .int .i64 pt, .int .i64 nw, .int .i64 i, .slice ea2 (E.length + 1) ec2, .slice ka K.length kc, .int .i64 tu, .slice fa F.length fc, .slice ra R.length rc, .int .i64 tk, .int .i64 ac, .int .i64 dr] by rw [hV]; exact Box.store [.int .i64 i] 12 _ _ HX.out)
      replace HC := Lib.hid (HC.out.grown hg hne)
      replace HL := Lib.hid (HL.out.grown hg HBW.out (fun q e => by cases e; exact HKB.out))
      replace HBW := Lib.hid (Nat.le_trans HBW.out hg.size)
      clear hV hg hne
      have o18 := HX.out.cell 18 _ rfl
      have g18 := HX.out.frozen 18
      go_upto_region 7 with fail
      clear o18 g18
      obtain ⟨v6, hV⟩ : ∃ V, V = v5.setCell ⟨kb, 18, none⟩ (.int .i64 (tk + 1)) := ⟨_, rfl⟩
      rw [← hV]
      have hg : v5.grownBy v6 (some kb) := by rw [hV]; exact store_grown [.int .i64 (tk + 1)] 18 _
      have hne : some ke ≠ some kb := fun e => by injection e; have := HKE.out; omega
      replace HO := Lib.hid (GOwn.offbox4 HO.out HX.out rfl hg)
      replace HX := Lib.hid (show Box v6 kb 72 [.int .i64 de, .int .i64 qu, .int .i64 wi, .int .i64 ti, .int .i64 qa, .int .i64 bu, .int .i64 le, .int .i64 pb, .int .i64 pc, .int .i64 pj, .int .i64 pt, .int .i64 nw, .int .i64 i, .slice ea2 (E.length + 1) ec2, .slice ka K.length kc, .int .i64 tu, .slice fa F.length fc, .slice ra R.length rc, .int .i64 (tk + 1), .int .i64 ac, .int .i64 dr] by rw [hV]; exact Box.store [.int .i64 (tk + 1)] 18 _ _ HX.out)
      replace HC := Lib.hid (HC.out.grown hg hne)
      replace HL := Lib.hid (HL.out.grown hg HBW.out (fun q e => by cases e; exact HKB.out))
      replace HBW := Lib.hid (Nat.le_trans HBW.out hg.size)
      clear hV hg hne
      have e0 := HC.out.cell 0 _ rfl
      go_wp2_with fail
      go_ret2
      exact ⟨rfl, ea2, ec2, HX.out, HO.out, HL.out⟩
    · refine AllReadyH.cons rfl (fun KB hKB => ?_) AllReadyH.nil
      go_simp
      have hb := bOne w5 (.cells #[.int .i64 i, .int .i64 d, .int .i64 c, .string bd, .int .i64 at_, .int .i64 t, .int .i64 r, .int .i64 n, .int .i64 s] 39)
      have HT1 := Lib.hid (ris_ev w5 39 ⟨i, d, c, bd, at_, t, r, n, s⟩)
      replace HX := Lib.hid (HX.out.below hb)
      replace HO := Lib.hid (HO.out.below hb)
      replace HC := Lib.hid (HC.out.below hb)
      replace HL := Lib.hid (HL.out.trans (hb.mono HBW.out))
      replace HBW := Lib.hid (Nat.le_trans HBW.out hb.size)
      clear hb hHeld
      refine hKB.out _ _ (HC.out) (fun hHeld => ?_)
      clear hKB
      try simp only [Act.put, List.setIfInBounds_toArray, List.set_cons_zero, List.set_cons_succ]
      refine wpAnyH_ready (rs := [5]) (by kernel_rfl) (by simp) ?_
      refine AllReadyH.cons rfl (fun KL hKL => ?_) AllReadyH.nil
      have o13 := HX.out.cell 13 _ rfl
      go_simp
      refine hKL.out _ _ (HC.out) (fun hHeld => ?_)
      clear hKL
      try simp only [Act.put, List.setIfInBounds_toArray, List.set_cons_zero, List.set_cons_succ]
      clear o13
      refine wpAnyH_ready (rs := [8]) (by kernel_rfl) (by simp) ?_
      refine AllReadyH.cons rfl (fun KP hKP => ?_) AllReadyH.nil
      have HAP := Lib.hid (app_row (T := 28) (ty := 28) (cap := 1) (len := 1) evS Tryz.underlying28 infoEvent evZ (by decide) (by omega) HO.out.evO HT1.out (flat_ev_one _) (by omega) HBW.out)
      refine Lnk.step_append_run rfl (.tmp 21) (.tmp 23) _ rfl (.slice ea E.length ec) (.slice (some ⟨w5.heap.size, 0, none⟩) 1 1) (by simp [Act.eval, Act.put]) (by simp [Act.eval, Act.put]) HAP.out ?_
      intro v' v3 happ
      obtain ⟨ea2, ec2, rfl⟩ := ROwn.shapeL happ.1 (E.length + 1) (by rw [List.length_append]; rfl)
      have hgz := happ.2.1
      have HOn := Lib.hid (HO.out.setEv hgz happ.1 happ.2.2 (body_app HO.out.body HBD.out))
      have hkb : ∀ z, (Value.slice ea E.length ec).ownBlock = some z → B ≤ z := fun z hz => (World.ownsRow.lt HO.out.evO z hz).1
      have hne : some ke ≠ (Value.slice ea E.length ec).ownBlock := fun e => HNE.out e.symm
      replace HX := Lib.hid (HX.out.grown hgz ((evR_at.2 HO.out.evO).ne_box rfl HX.out rfl))
      replace HC := Lib.hid (HC.out.grown hgz hne)
      replace HL := Lib.hid (HL.out.grown hgz HBW.out (fun z hz => hkb z hz))
      replace HBW := Lib.hid (Nat.le_trans HBW.out hgz.size)
      clear happ hgz hkb hne hHeld HT1 HAP HO
      refine hKP.out _ _ (HC.out) (fun hHeld => ?_)
      clear hKP
      try simp only [Act.put, List.setIfInBounds_toArray, List.set_cons_zero, List.set_cons_succ]
      refine wpAnyH_take (i := 9) (oi := { dst := some _, op := _, type := _, pos := _, after := _, guard := _ }) (v := ?_) rfl (by kernel_rfl) (by kernel_rfl) (by kernel_rfl) (fun _ _ _ h => h) ?_ (by with_reducible assumption) ?_
      rotate_left 1
      focus (refine Or.inl ⟨by rfl, ?_⟩; intro wq hSw; go_simp; try with_reducible rfl)
      try simp only [Act.put, List.setIfInBounds_toArray, List.set_cons_zero, List.set_cons_succ]
      refine wpAnyH_take (i := 10) (oi := { dst := some _, op := _, type := _, pos := _, after := _, guard := _ }) (v := ?_) rfl (by kernel_rfl) (by kernel_rfl) (by kernel_rfl) (fun _ _ _ h => h) ?_ (by with_reducible assumption) ?_
      rotate_left 1
      focus (refine Or.inl ⟨by rfl, ?_⟩; intro wq hSw; go_simp; try with_reducible rfl)
      try simp only [Act.put, List.setIfInBounds_toArray, List.set_cons_zero, List.set_cons_succ]
      refine wpAnyH_take (i := 11) (oi := { dst := some _, op := _, type := _, pos := _, after := _, guard := _ }) (v := ?_) rfl (by kernel_rfl) (by kernel_rfl) (by kernel_rfl) (fun _ _ _ h => h) ?_ (by with_reducible assumption) ?_
      rotate_left 1
      focus (refine Or.inl ⟨by rfl, ?_⟩; intro wq hSw; go_simp; try with_reducible rfl)
      try simp only [Act.put, List.setIfInBounds_toArray, List.set_cons_zero, List.set_cons_succ]
      refine wpAnyH_ready (rs := [12]) (by kernel_rfl) (by simp) ?_
      refine AllReadyH.cons rfl (fun KS hKS => ?_) AllReadyH.nil
      have o13 := HX.out.cell 13 _ rfl
      have g13 := HX.out.frozen 13
      go_simp
      obtain ⟨v4, hV⟩ : ∃ V, V = v3.setCell ⟨kb, 13, none⟩ (.slice ea2 (E.length + 1) ec2) := ⟨_, rfl⟩
      rw [← hV]
      have hg : v3.grownBy v4 (some kb) := by rw [hV]; exact store_grown [.slice ea2 (E.length + 1) ec2] 13 _
      have hne : some ke ≠ some kb := fun e => by injection e; have := HKE.out; omega
      have HO := Lib.hid (GOwn.offbox4 HOn.out HX.out rfl hg)
      replace HX := Lib.hid (show Box v4 kb 72 [.int .i64 de, .int .i64 qu, .int .i64 wi, .int .i64 ti, .int .i64 qa, .int .i64 bu, .int .i64 le, .int .i64 pb, .int .i64 pc, .int .i64 pj, .int .i64 pt, .int .i64 nw, .int .i64 la, .slice ea2 (E.length + 1) ec2, .slice ka K.length kc, .int .i64 tu, .slice fa F.length fc, .slice ra R.length rc, .int .i64 tk, .int .i64 ac, .int .i64 dr] by rw [hV]; exact Box.store [.slice ea2 (E.length + 1) ec2] 13 _ _ HX.out)
      replace HC := Lib.hid (HC.out.grown hg hne)
      replace HL := Lib.hid (HL.out.grown hg HBW.out (fun q e => by cases e; exact HKB.out))
      replace HBW := Lib.hid (Nat.le_trans HBW.out hg.size)
      clear hV hg hne
      clear o13 g13 hHeld HOn
      refine hKS.out _ _ (HC.out) (fun hHeld => ?_)
      clear hKS
      try simp only [Act.put, List.setIfInBounds_toArray, List.set_cons_zero, List.set_cons_succ]
      refine wpAnyH_done (by kernel_rfl) ?_ _
      clear hHeld
      have e0 := HC.out.cell 0 _ rfl
      have o12 := HX.out.cell 12 _ rfl
      have g12 := HX.out.frozen 12
      go_upto_region 6 with fail
      clear e0 o12 g12
      obtain ⟨v5, hV⟩ : ∃ V, V = v4.setCell ⟨kb, 12, none⟩ (.int .i64 i) := ⟨_, rfl⟩
      rw [← hV]
      have hg : v4.grownBy v5 (some kb) := by rw [hV]; exact store_grown [.int .i64 i] 12 _
      have hne : some ke ≠ some kb := fun e => by injection e; have := HKE.out; omega
      replace HO := Lib.hid (GOwn.offbox4 HO.out HX.out rfl hg)
      replace HX := Lib.hid (show Box v5 kb 72 [.int .i64 de, .int .i64 qu, .int .i64 wi, .int .i64 ti, .int .i64 qa, .int .i64 bu, .int .i64 le, .int .i64 pb, .int .i64 pc, .int .i64 pj, .int .i64 pt, .int .i64 nw, .int .i64 i, .slice ea2 (E.length + 1) ec2, .slice ka K.length kc, .int .i64 tu, .slice fa F.length fc, .slice ra R.length rc, .int .i64 tk, .int .i64 ac, .int .i64 dr] by rw [hV]; exact Box.store [.int .i64 i] 12 _ _ HX.out)
      replace HC := Lib.hid (HC.out.grown hg hne)
      replace HL := Lib.hid (HL.out.grown hg HBW.out (fun q e => by cases e; exact HKB.out))
      replace HBW := Lib.hid (Nat.le_trans HBW.out hg.size)
      clear hV hg hne
      have o18 := HX.out.cell 18 _ rfl
      have g18 := HX.out.frozen 18
      go_upto_region 7 with fail
      clear o18 g18
      obtain ⟨v6, hV⟩ : ∃ V, V = v5.setCell ⟨kb, 18, none⟩ (.int .i64 (tk + 1)) := ⟨_, rfl⟩
      rw [← hV]
      have hg : v5.grownBy v6 (some kb) := by rw [hV]; exact store_grown [.int .i64 (tk + 1)] 18 _
      have hne : some ke ≠ some kb := fun e => by injection e; have := HKE.out; omega
      replace HO := Lib.hid (GOwn.offbox4 HO.out HX.out rfl hg)
      replace HX := Lib.hid (show Box v6 kb 72 [.int .i64 de, .int .i64 qu, .int .i64 wi, .int .i64 ti, .int .i64 qa, .int .i64 bu, .int .i64 le, .int .i64 pb, .int .i64 pc, .int .i64 pj, .int .i64 pt, .int .i64 nw, .int .i64 i, .slice ea2 (E.length + 1) ec2, .slice ka K.length kc, .int .i64 tu, .slice fa F.length fc, .slice ra R.length rc, .int .i64 (tk + 1), .int .i64 ac, .int .i64 dr] by rw [hV]; exact Box.store [.int .i64 (tk + 1)] 18 _ _ HX.out)
      replace HC := Lib.hid (HC.out.grown hg hne)
      replace HL := Lib.hid (HL.out.grown hg HBW.out (fun q e => by cases e; exact HKB.out))
      replace HBW := Lib.hid (Nat.le_trans HBW.out hg.size)
      clear hV hg hne
      have e0 := HC.out.cell 0 _ rfl
      go_wp2_with fail
      go_ret2
      exact ⟨rfl, ea2, ec2, HX.out, HO.out, HL.out⟩
  · rw [show errV cd = .iface 136 (.int .i64 cd) from if_neg h0]
    go_wp2_with fail
    go_ret2
    exact ⟨fun _ => ⟨(by first | rfl | (unfold errV; rw [if_neg h0]; rfl)), HX.out, HO.out, HL.out⟩, fun h => absurd h h0⟩

end Go.Proofs.YtkndpkingmemoaaGreatDoor.Gat
namespace Go.Proofs.YtkndpkingmemoaaGreatDoor.Gat
open Go.RowKit
open Lnk (bOne bAfter IOwn IIs YOwn YIs below_keep below_drew' bcell low_after low_alloc grown_of_below)
set_option linter.unusedVariables false
set_option linter.unusedSimpArgs false

theorem gok_tk {de qu wi ti qa bu le pb pc pj pt nw la : Int} {en kn : Nat} {tu : Int} {fn rn : Nat} {tk ac dr : Int} {E : List Ev} {K : List Lk} {F R : List Int} (h : gokB de qu wi ti qa bu le pb pc pj pt nw la en kn tu fn rn tk ac dr E K F R = true) : 0 ≤ tk ∧ tk ≤ 9999 := by
  have h1 := (gokB_true h).2.2.2.2.2.2.2
  unfold toP at h1
  omega

set_option maxRecDepth 100000 in
set_option maxHeartbeats 8000000 in
theorem implSubmit_any (w : World) (de qu wi ti qa bu le pb pc pj pt nw la : Int) (ea : Option Addr) (en ec : Nat) (ka : Option Addr) (kn kc : Nat) (tu : Int) (fa : Option Addr) (fn fc : Nat) (ra : Option Addr) (rn rc : Nat) (tk ac dr : Int) (E : List Ev) (K : List Lk) (F R : List Int) (d c : Int) (bd : ByteArray) (t : Int) (hE : ∀ e ∈ E, (Lit.int .i64 e.i).wf = true) (hR : ∀ x ∈ R, (Lit.int .i64 x).wf = true) (h : GIs w.heap.size w ea en ka kn fa fn ra rn E K F R) (hs : Small en kn fn rn K) (hbd : bd.size ≤ maxLen) (hg : ErrT w) :
    Calls Tryz.prog 10 #[.agg #[.int .i64 de, .int .i64 qu, .int .i64 wi, .int .i64 ti, .int .i64 qa, .int .i64 bu, .int .i64 le, .int .i64 pb, .int .i64 pc, .int .i64 pj, .int .i64 pt, .int .i64 nw, .int .i64 la, .slice ea en ec, .slice ka kn kc, .int .i64 tu, .slice fa fn fc, .slice ra rn rc, .int .i64 tk, .int .i64 ac, .int .i64 dr], .int .i64 d, .int .i64 c, .string bd, .int .i64 t] w fun e w' => GEnd2 w w' de qu wi ti qa bu le pb pc pj pt nw (sel (subC (gokB de qu wi ti qa bu le pb pc pj pt nw la en kn tu fn rn tk ac dr E K F R) nw de d c bd.size pt t qu en la E == 0) (la + 1) la) tu (sel (subC (gokB de qu wi ti qa bu le pb pc pj pt nw la en kn tu fn rn tk ac dr E K F R) nw de d c bd.size pt t qu en la E == 0) (tk + 1) tk) ac dr (sel (subC (gokB de qu wi ti qa bu le pb pc pj pt nw la en kn tu fn rn tk ac dr E K F R) nw de d c bd.size pt t qu en la E == 0) (E ++ [⟨la + 1, d, c, bd, nw, t, 0, nw, 0⟩]) E) K F R (sel (subC (gokB de qu wi ti qa bu le pb pc pj pt nw la en kn tu fn rn tk ac dr E K F R) nw de d c bd.size pt t qu en la E == 0) (la + 1) 0) (subC (gokB de qu wi ti qa bu le pb pc pj pt nw la en kn tu fn rn tk ac dr E K F R) nw de d c bd.size pt t qu en la E) e := by
  obtain rfl : E.length = en := h.ev.row.hlen
  obtain rfl : K.length = kn := h.lk.hlen
  obtain rfl : F.length = fn := h.lf.hlen
  obtain rfl : R.length = rn := h.lt.hlen
  obtain ⟨W0, hW0⟩ : ∃ W, W = (w.alloc (.cells #[.int .i64 de, .int .i64 qu, .int .i64 wi, .int .i64 ti, .int .i64 qa, .int .i64 bu, .int .i64 le, .int .i64 pb, .int .i64 pc, .int .i64 pj, .int .i64 pt, .int .i64 nw, .int .i64 la, .slice ea E.length ec, .slice ka K.length kc, .int .i64 tu, .slice fa F.length fc, .slice ra R.length rc, .int .i64 tk, .int .i64 ac, .int .i64 dr] 32)).alloc (.cells #[.int .i64 0, .int .i64 0, .int .i64 0, .int .i64 0, .int .i64 0, .int .i64 0, .int .i64 0, .int .i64 0, .int .i64 0, .int .i64 0, .int .i64 0, .int .i64 0, .int .i64 0, .slice none 0 0, .slice none 0 0, .int .i64 0, .slice none 0 0, .slice none 0 0, .int .i64 0, .int .i64 0, .int .i64 0] 32) := ⟨_, rfl⟩
  have hb01 := bOne w (.cells #[.int .i64 de, .int .i64 qu, .int .i64 wi, .int .i64 ti, .int .i64 qa, .int .i64 bu, .int .i64 le, .int .i64 pb, .int .i64 pc, .int .i64 pj, .int .i64 pt, .int .i64 nw, .int .i64 la, .slice ea E.length ec, .slice ka K.length kc, .int .i64 tu, .slice fa F.length fc, .slice ra R.length rc, .int .i64 tk, .int .i64 ac, .int .i64 dr] 32)
  have hb02 := bOne (w.alloc (.cells #[.int .i64 de, .int .i64 qu, .int .i64 wi, .int .i64 ti, .int .i64 qa, .int .i64 bu, .int .i64 le, .int .i64 pb, .int .i64 pc, .int .i64 pj, .int .i64 pt, .int .i64 nw, .int .i64 la, .slice ea E.length ec, .slice ka K.length kc, .int .i64 tu, .slice fa F.length fc, .slice ra R.length rc, .int .i64 tk, .int .i64 ac, .int .i64 dr] 32)) (.cells #[.int .i64 0, .int .i64 0, .int .i64 0, .int .i64 0, .int .i64 0, .int .i64 0, .int .i64 0, .int .i64 0, .int .i64 0, .int .i64 0, .int .i64 0, .int .i64 0, .int .i64 0, .slice none 0 0, .slice none 0 0, .int .i64 0, .slice none 0 0, .slice none 0 0, .int .i64 0, .int .i64 0, .int .i64 0] 32)
  have HA : Hid (Box W0 w.heap.size 32 [.int .i64 de, .int .i64 qu, .int .i64 wi, .int .i64 ti, .int .i64 qa, .int .i64 bu, .int .i64 le, .int .i64 pb, .int .i64 pc, .int .i64 pj, .int .i64 pt, .int .i64 nw, .int .i64 la, .slice ea E.length ec, .slice ka K.length kc, .int .i64 tu, .slice fa F.length fc, .slice ra R.length rc, .int .i64 tk, .int .i64 ac, .int .i64 dr]) := Lib.hid (by rw [hW0]; exact (Box.new w [.int .i64 de, .int .i64 qu, .int .i64 wi, .int .i64 ti, .int .i64 qa, .int .i64 bu, .int .i64 le, .int .i64 pb, .int .i64 pc, .int .i64 pj, .int .i64 pt, .int .i64 nw, .int .i64 la, .slice ea E.length ec, .slice ka K.length kc, .int .i64 tu, .slice fa F.length fc, .slice ra R.length rc, .int .i64 tk, .int .i64 ac, .int .i64 dr] 32).below hb02)
  have HR : Hid (Box W0 (w.heap.size + 1) 32 [.int .i64 0, .int .i64 0, .int .i64 0, .int .i64 0, .int .i64 0, .int .i64 0, .int .i64 0, .int .i64 0, .int .i64 0, .int .i64 0, .int .i64 0, .int .i64 0, .int .i64 0, .slice none 0 0, .slice none 0 0, .int .i64 0, .slice none 0 0, .slice none 0 0, .int .i64 0, .int .i64 0, .int .i64 0]) := Lib.hid (by
    rw [hW0]
    have := Box.new (w.alloc (.cells #[.int .i64 de, .int .i64 qu, .int .i64 wi, .int .i64 ti, .int .i64 qa, .int .i64 bu, .int .i64 le, .int .i64 pb, .int .i64 pc, .int .i64 pj, .int .i64 pt, .int .i64 nw, .int .i64 la, .slice ea E.length ec, .slice ka K.length kc, .int .i64 tu, .slice fa F.length fc, .slice ra R.length rc, .int .i64 tk, .int .i64 ac, .int .i64 dr] 32)) [.int .i64 0, .int .i64 0, .int .i64 0, .int .i64 0, .int .i64 0, .int .i64 0, .int .i64 0, .int .i64 0, .int .i64 0, .int .i64 0, .int .i64 0, .int .i64 0, .int .i64 0, .slice none 0 0, .slice none 0 0, .int .i64 0, .slice none 0 0, .slice none 0 0, .int .i64 0, .int .i64 0, .int .i64 0] 32
    simpa using this)
  have HL : Hid (Below w.heap.size w W0) := Lib.hid (by rw [hW0]; exact hb01.trans (hb02.mono (by simp)))
  have HSZ := Lib.hid (show w.heap.size + 2 ≤ W0.heap.size by rw [hW0]; simp)
  have hz0 : 0 < w.heap.size := World.block_lt_of_cell? _ _ hg
  have HWE := Lib.hid hW0
  have HG := Lib.hid h
  have HSM := Lib.hid hs
  have HE := Lib.hid hE
  have HRW := Lib.hid hR
  have HEG := Lib.hid (show ErrT W0 from (HL.out.cell (p := ⟨0, 0, none⟩) hz0).trans hg)
  obtain ⟨cd, hcd⟩ : ∃ x, x = subC (gokB de qu wi ti qa bu le pb pc pj pt nw la E.length K.length tu F.length R.length tk ac dr E K F R) nw de d c bd.size pt t qu E.length la E := ⟨_, rfl⟩
  rw [← hcd]
  have HCD := Lib.hid hcd
  have HTK := Lib.hid (show cd = 0 → 0 ≤ tk ∧ tk ≤ 9999 from fun h0 => gok_tk (subC_ok (hcd.symm.trans h0)))
  have HLA := Lib.hid (show cd = 0 → 0 ≤ la ∧ la ≤ 9999 from fun h0 => (gokB_true (subC_ok (hcd.symm.trans h0))).2.2.1)
  clear hW0 hb01 hb02 h hs hE hR hcd hg
  go_enter Tryz.func10, Tryz.ntmps10
  go_upto_region 1 with fail
  rw [← HWE.out]
  clear HWE
  obtain ⟨B, hB⟩ : ∃ B, B = W0.heap.size := ⟨_, rfl⟩
  have HB1 := Lib.hid (show w.heap.size + 2 ≤ B by rw [hB]; exact HSZ.out)
  have HB0 := Lib.hid (show 0 < B by rw [hB]; have := HSZ.out; omega)
  go_wp2_with (first | (refine wpList_load_box rfl _ 32 rfl rfl HA.out _ Tryz.underlying32 sizeGate ?_) | fail)
  refine (copyGate_any _ de qu wi ti qa bu le pb pc pj pt nw la ea E.length ec ka K.length kc tu fa F.length fc ra R.length rc tk ac dr E K F R (HG.out.here HL.out) HSM.out).mono ?_
  rintro e w1 ⟨⟨ea1, ec1, ka1, kc1, fa1, fc1, ra1, rc1, vs, rfl, ho⟩, hb⟩
  rw [← hB] at ho
  have HO := Lib.hid ho
  have HBW := Lib.hid (show B ≤ w1.heap.size by rw [hB]; exact hb.size)
  replace HA := Lib.hid (HA.out.below hb)
  replace HR := Lib.hid (HR.out.below hb)
  replace HL := Lib.hid (low_after HL.out hb)
  replace HEG := Lib.hid (HEG.out.below hb)
  clear hb ho hB HSZ
  obtain ⟨kb, hkb⟩ : ∃ k, k = w1.heap.size := ⟨_, rfl⟩
  go_upto_region 2 with (first | (refine wpList_store_box rfl _ _ 72 rfl rfl [.int .i64 de, .int .i64 qu, .int .i64 wi, .int .i64 ti, .int .i64 qa, .int .i64 bu, .int .i64 le, .int .i64 pb, .int .i64 pc, .int .i64 pj, .int .i64 pt, .int .i64 nw, .int .i64 la, .slice ea1 E.length ec1, .slice ka1 K.length kc1, .int .i64 tu, .slice fa1 F.length fc1, .slice ra1 R.length rc1, .int .i64 tk, .int .i64 ac, .int .i64 dr] rfl (Box.new _ [.int .i64 0, .int .i64 0, .int .i64 0, .int .i64 0, .int .i64 0, .int .i64 0, .int .i64 0, .int .i64 0, .int .i64 0, .int .i64 0, .int .i64 0, .int .i64 0, .int .i64 0, .slice none 0 0, .slice none 0 0, .int .i64 0, .slice none 0 0, .slice none 0 0, .int .i64 0, .int .i64 0, .int .i64 0] 72) sizeKeep rfl rfl ?_; intro V0 hXb hgV hlV; have HX := Lib.hid hXb; have HBV := Lib.hid (hlV w1.heap.size w1 (Nat.le_refl _) (bOne w1 _)); clear hXb hgV hlV) | fail)
  simp only [Act.put]
  rw [← hkb] at HX ⊢
  have HKB := Lib.hid (show B ≤ kb by rw [hkb]; exact HBW.out)
  clear hkb
  obtain ⟨w2, hw2⟩ : ∃ x, x = V0 := ⟨_, rfl⟩
  rw [← hw2] at HX HBV ⊢
  clear hw2
  replace HA := Lib.hid (HA.out.below HBV.out)
  replace HR := Lib.hid (HR.out.below HBV.out)
  replace HL := Lib.hid (low_after HL.out HBV.out)
  replace HO := Lib.hid (HO.out.below HBV.out)
  replace HEG := Lib.hid (HEG.out.below HBV.out)
  replace HBW := Lib.hid (Nat.le_trans HBW.out HBV.out.size)
  clear HBV
  by_cases h0 : cd = 0
  · subst h0
    have hla := HLA.out rfl
    have hwl : IntKind.i64.wrap (la + 1) = la + 1 := IntWalk.i64_in _ (by omega)
    have a12 := HA.out.cell 12 _ rfl
    have a11 := HA.out.cell 11 _ rfl
    go_wp2_with fail
    clear a12 a11
    refine (take_any w2 B kb de qu wi ti qa bu le pb pc pj pt nw la ea1 ec1 ka1 kc1 tu fa1 fc1 ra1 rc1 tk ac dr vs E K F R HE.out HRW.out _ d c bd nw t 0 nw 0 hbd HX.out HKB.out HO.out HBW.out HSM.out (by rw [← HCD.out]; first | exact HTK.out | exact fun _ => HTK.out trivial)).mono ?_
    rintro e w3 hpost
    rw [← HCD.out] at hpost
    obtain ⟨ea2, ec2, rfl, hx, ho, hl⟩ := hpost.2 rfl
    clear hpost
    replace HEG := Lib.hid (show ErrT w3 from (hl.cell (p := ⟨0, 0, none⟩) (by have := HB0.out; exact this)).trans HEG.out)
    replace HR := Lib.hid (HR.out.low hl (by have := HB1.out; omega))
    replace HL := Lib.hid (HL.out.trans (hl.mono (by have := HB1.out; omega)))
    replace HBW := Lib.hid (Nat.le_trans HBW.out hl.size)
    replace HX := Lib.hid hx
    replace HO := Lib.hid ho
    clear hx ho hl
    go_upto_region 3 with fail
    have hb := below_drew' (Below.refl w3.heap.size w3)
    replace HR := Lib.hid (HR.out.below hb)
    replace HX := Lib.hid (HX.out.below hb)
    replace HO := Lib.hid (HO.out.below hb)
    replace HL := Lib.hid (low_after HL.out hb)
    replace HBW := Lib.hid (Nat.le_trans HBW.out hb.size)
    replace HEG := Lib.hid (HEG.out.below hb)
    clear hb
    refine wp_region_held_drew (S := fun w' => Box w' kb 72 [.int .i64 de, .int .i64 qu, .int .i64 wi, .int .i64 ti, .int .i64 qa, .int .i64 bu, .int .i64 le, .int .i64 pb, .int .i64 pc, .int .i64 pj, .int .i64 pt, .int .i64 nw, .int .i64 (la + 1), .slice ea2 (E.length + 1) ec2, .slice ka1 K.length kc1, .int .i64 tu, .slice fa1 F.length fc1, .slice ra1 R.length rc1, .int .i64 (tk + 1), .int .i64 ac, .int .i64 dr]) (by kernel_rfl) HX.out (fun hHeld => ?_)
    obtain ⟨wd, hwd⟩ : ∃ x, x = w3.drew := ⟨_, rfl⟩
    rw [← hwd] at HR HX HO HL HBW HEG hHeld ⊢
    clear hwd
    refine wpAnyH_take (i := 0) (oi := { dst := some _, op := _, type := _, pos := _, after := _, guard := _ }) (v := ?_) rfl (by kernel_rfl) (by kernel_rfl) (by kernel_rfl) (fun _ _ _ h => h) ?_ (by with_reducible assumption) ?_
    rotate_left 1
    focus (refine Or.inl ⟨by rfl, ?_⟩; intro wq hSw; go_simp; try with_reducible rfl)
    try simp only [Act.put, List.setIfInBounds_toArray, List.set_cons_zero, List.set_cons_succ]
    refine wpAnyH_take (i := 1) (oi := { dst := some _, op := _, type := _, pos := _, after := _, guard := _ }) (v := ?_) rfl (by kernel_rfl) (by kernel_rfl) (by kernel_rfl) (fun _ _ _ h => h) ?_ (by with_reducible assumption) ?_
    rotate_left 1
    focus (refine Or.inl ⟨by rfl, ?_⟩; intro wq hSw; refine exec_load_box ?_ 32 ?_ ?_ hSw _ Tryz.underlying32 sizeGate; rotate_left 1; rfl; rfl)
    try simp only [Act.put, List.setIfInBounds_toArray, List.set_cons_zero, List.set_cons_succ]
    refine wpAnyH_take (i := 2) (oi := { dst := some _, op := _, type := _, pos := _, after := _, guard := _ }) (v := ?_) rfl (by kernel_rfl) (by kernel_rfl) (by kernel_rfl) (fun _ _ _ h => h) ?_ (by with_reducible assumption) ?_
    rotate_left 1
    focus (refine Or.inl ⟨by rfl, ?_⟩; intro wq hSw; go_simp; try with_reducible rfl)
    try simp only [Act.put, List.setIfInBounds_toArray, List.set_cons_zero, List.set_cons_succ]
    refine wpAnyH_take (i := 3) (oi := { dst := some _, op := _, type := _, pos := _, after := _, guard := _ }) (v := ?_) rfl (by kernel_rfl) (by kernel_rfl) (by kernel_rfl) (fun _ _ _ h => h) ?_ (by with_reducible assumption) ?_
    rotate_left 1
    focus (refine Or.inl ⟨by rfl, ?_⟩; intro wq hSw; go_simp; try with_reducible rfl)
    try simp only [Act.put, List.setIfInBounds_toArray, List.set_cons_zero, List.set_cons_succ]
    refine wpAnyH_ready (rs := [4]) (by kernel_rfl) (by simp) ?_
    refine AllReadyH.cons rfl (fun KC hKC => ?_) AllReadyH.nil
    go_simp
    refine (codeOf_any _ 0 HEG.out).mono ?_
    rintro e w4 ⟨rfl, hb⟩
    replace HR := Lib.hid (HR.out.below hb)
    replace HX := Lib.hid (HX.out.below hb)
    replace HO := Lib.hid (HO.out.below hb)
    replace HL := Lib.hid (low_after HL.out hb)
    replace HBW := Lib.hid (Nat.le_trans HBW.out hb.size)
    replace HEG := Lib.hid (HEG.out.below hb)
    clear hb hHeld
    dsimp only
    refine hKC.out _ _ (HX.out) (fun hHeld => ?_)
    clear hKC
    try simp only [Act.put, List.setIfInBounds_toArray, List.set_cons_zero, List.set_cons_succ]
    refine wpAnyH_ready (rs := [5]) (by kernel_rfl) (by simp) ?_
    refine AllReadyH.cons rfl (fun KS hKS => ?_) AllReadyH.nil
    refine step_store_box rfl _ _ 32 rfl rfl [.int .i64 de, .int .i64 qu, .int .i64 wi, .int .i64 ti, .int .i64 qa, .int .i64 bu, .int .i64 le, .int .i64 pb, .int .i64 pc, .int .i64 pj, .int .i64 pt, .int .i64 nw, .int .i64 (la + 1), .slice ea2 (E.length + 1) ec2, .slice ka1 K.length kc1, .int .i64 tu, .slice fa1 F.length fc1, .slice ra1 R.length rc1, .int .i64 (tk + 1), .int .i64 ac, .int .i64 dr] rfl HR.out sizeGate rfl rfl ?_
    intro V hXb hgV hlV
    replace HX := Lib.hid (HX.out.grown hgV (fun e => by injection e; have := HB1.out; have := HKB.out; omega))
    clear hHeld
    refine hKS.out _ _ (HX.out) (fun hHeld => ?_)
    clear hKS
    try simp only [Act.put, List.setIfInBounds_toArray, List.set_cons_zero, List.set_cons_succ]
    refine wpAnyH_take (i := 6) (oi := { dst := some _, op := _, type := _, pos := _, after := _, guard := _ }) (v := ?_) rfl (by kernel_rfl) (by kernel_rfl) (by kernel_rfl) (fun _ _ _ h => h) ?_ (by with_reducible assumption) ?_
    rotate_left 1
    focus (refine Or.inl ⟨by rfl, ?_⟩; intro wq hSw; go_simp; try with_reducible rfl)
    try simp only [Act.put, List.setIfInBounds_toArray, List.set_cons_zero, List.set_cons_succ]
    refine wpAnyH_take (i := 7) (oi := { dst := some _, op := _, type := _, pos := _, after := _, guard := _ }) (v := ?_) rfl (by kernel_rfl) (by kernel_rfl) (by kernel_rfl) (fun _ _ _ h => h) ?_ (by with_reducible assumption) ?_
    rotate_left 1
    focus (refine Or.inl ⟨by rfl, ?_⟩; intro wq hSw; go_simp; try with_reducible rfl)
    try simp only [Act.put, List.setIfInBounds_toArray, List.set_cons_zero, List.set_cons_succ]
    refine wpAnyH_done (by kernel_rfl) ?_ _
    clear hHeld
    go_wp2_with fail
    exact bodyPost_ret (v := .tuple #[.agg #[.int .i64 de, .int .i64 qu, .int .i64 wi, .int .i64 ti, .int .i64 qa, .int .i64 bu, .int .i64 le, .int .i64 pb, .int .i64 pc, .int .i64 pj, .int .i64 pt, .int .i64 nw, .int .i64 (la + 1), .slice ea2 (E.length + 1) ec2, .slice ka1 K.length kc1, .int .i64 tu, .slice fa1 F.length fc1, .slice ra1 R.length rc1, .int .i64 (tk + 1), .int .i64 ac, .int .i64 dr], .int .i64 (la + 1), .int .i64 0]) (results_box3 _ Tryz.results10 rfl rfl rfl hXb _ Tryz.underlying32 sizeGate) rfl ⟨⟨ea2, ec2, ka1, kc1, fa1, fc1, ra1, rc1, vs, by simp [sel], by have h1 := (HO.out.low hgV (by have := HB1.out; omega)).base (B' := w.heap.size) (by have := HB1.out; omega); simpa [sel] using h1⟩, hlV w.heap.size w (by omega) HL.out⟩
  · have HS0 := Lib.hid (show (cd == 0) = false by simpa using h0)
    have a12 := HA.out.cell 12 _ rfl
    have a11 := HA.out.cell 11 _ rfl
    go_wp2_with fail
    clear a12 a11
    refine (take_any w2 B kb de qu wi ti qa bu le pb pc pj pt nw la ea1 ec1 ka1 kc1 tu fa1 fc1 ra1 rc1 tk ac dr vs E K F R HE.out HRW.out _ d c bd nw t 0 nw 0 hbd HX.out HKB.out HO.out HBW.out HSM.out (by rw [← HCD.out]; first | exact HTK.out | exact fun _ => HTK.out trivial)).mono ?_
    rintro e w3 hpost
    rw [← HCD.out] at hpost
    obtain ⟨rfl, hx, ho, hl⟩ := hpost.1 h0
    clear hpost
    replace HEG := Lib.hid (show ErrT w3 from (hl.cell (p := ⟨0, 0, none⟩) (by have := HB0.out; exact this)).trans HEG.out)
    replace HR := Lib.hid (HR.out.low hl (by have := HB1.out; omega))
    replace HL := Lib.hid (HL.out.trans (hl.mono (by have := HB1.out; omega)))
    replace HBW := Lib.hid (Nat.le_trans HBW.out hl.size)
    replace HX := Lib.hid hx
    replace HO := Lib.hid ho
    clear hx ho hl
    go_upto_region 3 with fail
    have hb := below_drew' (Below.refl w3.heap.size w3)
    replace HR := Lib.hid (HR.out.below hb)
    replace HX := Lib.hid (HX.out.below hb)
    replace HO := Lib.hid (HO.out.below hb)
    replace HL := Lib.hid (low_after HL.out hb)
    replace HBW := Lib.hid (Nat.le_trans HBW.out hb.size)
    replace HEG := Lib.hid (HEG.out.below hb)
    clear hb
    refine wp_region_held_drew (S := fun w' => Box w' kb 72 [.int .i64 de, .int .i64 qu, .int .i64 wi, .int .i64 ti, .int .i64 qa, .int .i64 bu, .int .i64 le, .int .i64 pb, .int .i64 pc, .int .i64 pj, .int .i64 pt, .int .i64 nw, .int .i64 la, .slice ea1 E.length ec1, .slice ka1 K.length kc1, .int .i64 tu, .slice fa1 F.length fc1, .slice ra1 R.length rc1, .int .i64 tk, .int .i64 ac, .int .i64 dr]) (by kernel_rfl) HX.out (fun hHeld => ?_)
    obtain ⟨wd, hwd⟩ : ∃ x, x = w3.drew := ⟨_, rfl⟩
    rw [← hwd] at HR HX HO HL HBW HEG hHeld ⊢
    clear hwd
    refine wpAnyH_take (i := 0) (oi := { dst := some _, op := _, type := _, pos := _, after := _, guard := _ }) (v := ?_) rfl (by kernel_rfl) (by kernel_rfl) (by kernel_rfl) (fun _ _ _ h => h) ?_ (by with_reducible assumption) ?_
    rotate_left 1
    focus (refine Or.inl ⟨by rfl, ?_⟩; intro wq hSw; go_simp; try with_reducible rfl)
    try simp only [Act.put, List.setIfInBounds_toArray, List.set_cons_zero, List.set_cons_succ]
    refine wpAnyH_take (i := 1) (oi := { dst := some _, op := _, type := _, pos := _, after := _, guard := _ }) (v := ?_) rfl (by kernel_rfl) (by kernel_rfl) (by kernel_rfl) (fun _ _ _ h => h) ?_ (by with_reducible assumption) ?_
    rotate_left 1
    focus (refine Or.inl ⟨by rfl, ?_⟩; intro wq hSw; refine exec_load_box ?_ 32 ?_ ?_ hSw _ Tryz.underlying32 sizeGate; rotate_left 1; rfl; rfl)
    try simp only [Act.put, List.setIfInBounds_toArray, List.set_cons_zero, List.set_cons_succ]
    refine wpAnyH_take (i := 2) (oi := { dst := some _, op := _, type := _, pos := _, after := _, guard := _ }) (v := ?_) rfl (by kernel_rfl) (by kernel_rfl) (by kernel_rfl) (fun _ _ _ h => h) ?_ (by with_reducible assumption) ?_
    rotate_left 1
    focus (refine Or.inl ⟨by rfl, ?_⟩; intro wq hSw; go_simp; try with_reducible rfl)
    try simp only [Act.put, List.setIfInBounds_toArray, List.set_cons_zero, List.set_cons_succ]
    refine wpAnyH_take (i := 3) (oi := { dst := some _, op := _, type := _, pos := _, after := _, guard := _ }) (v := ?_) rfl (by kernel_rfl) (by kernel_rfl) (by kernel_rfl) (fun _ _ _ h => h) ?_ (by with_reducible assumption) ?_
    rotate_left 1
    focus (refine Or.inl ⟨by rfl, ?_⟩; intro wq hSw; go_simp; try with_reducible rfl)
    try simp only [Act.put, List.setIfInBounds_toArray, List.set_cons_zero, List.set_cons_succ]
    refine wpAnyH_ready (rs := [4]) (by kernel_rfl) (by simp) ?_
    refine AllReadyH.cons rfl (fun KC hKC => ?_) AllReadyH.nil
    go_simp
    refine (codeOf_any _ cd HEG.out).mono ?_
    rintro e w4 ⟨rfl, hb⟩
    replace HR := Lib.hid (HR.out.below hb)
    replace HX := Lib.hid (HX.out.below hb)
    replace HO := Lib.hid (HO.out.below hb)
    replace HL := Lib.hid (low_after HL.out hb)
    replace HBW := Lib.hid (Nat.le_trans HBW.out hb.size)
    replace HEG := Lib.hid (HEG.out.below hb)
    clear hb hHeld
    dsimp only
    refine hKC.out _ _ (HX.out) (fun hHeld => ?_)
    clear hKC
    try simp only [Act.put, List.setIfInBounds_toArray, List.set_cons_zero, List.set_cons_succ]
    refine wpAnyH_ready (rs := [5]) (by kernel_rfl) (by simp) ?_
    refine AllReadyH.cons rfl (fun KS hKS => ?_) AllReadyH.nil
    refine step_store_box rfl _ _ 32 rfl rfl [.int .i64 de, .int .i64 qu, .int .i64 wi, .int .i64 ti, .int .i64 qa, .int .i64 bu, .int .i64 le, .int .i64 pb, .int .i64 pc, .int .i64 pj, .int .i64 pt, .int .i64 nw, .int .i64 la, .slice ea1 E.length ec1, .slice ka1 K.length kc1, .int .i64 tu, .slice fa1 F.length fc1, .slice ra1 R.length rc1, .int .i64 tk, .int .i64 ac, .int .i64 dr] rfl HR.out sizeGate rfl rfl ?_
    intro V hXb hgV hlV
    replace HX := Lib.hid (HX.out.grown hgV (fun e => by injection e; have := HB1.out; have := HKB.out; omega))
    clear hHeld
    refine hKS.out _ _ (HX.out) (fun hHeld => ?_)
    clear hKS
    try simp only [Act.put, List.setIfInBounds_toArray, List.set_cons_zero, List.set_cons_succ]
    refine wpAnyH_take (i := 6) (oi := { dst := some _, op := _, type := _, pos := _, after := _, guard := _ }) (v := ?_) rfl (by kernel_rfl) (by kernel_rfl) (by kernel_rfl) (fun _ _ _ h => h) ?_ (by with_reducible assumption) ?_
    rotate_left 1
    focus (refine Or.inl ⟨by rfl, ?_⟩; intro wq hSw; go_simp; try with_reducible rfl)
    try simp only [Act.put, List.setIfInBounds_toArray, List.set_cons_zero, List.set_cons_succ]
    refine wpAnyH_take (i := 7) (oi := { dst := some _, op := _, type := _, pos := _, after := _, guard := _ }) (v := ?_) rfl (by kernel_rfl) (by kernel_rfl) (by kernel_rfl) (fun _ _ _ h => h) ?_ (by with_reducible assumption) ?_
    rotate_left 1
    focus (refine Or.inl ⟨by rfl, ?_⟩; intro wq hSw; go_simp; try with_reducible rfl)
    try simp only [Act.put, List.setIfInBounds_toArray, List.set_cons_zero, List.set_cons_succ]
    refine wpAnyH_done (by kernel_rfl) ?_ _
    clear hHeld
    go_wp2_with fail
    exact bodyPost_ret (v := .tuple #[.agg #[.int .i64 de, .int .i64 qu, .int .i64 wi, .int .i64 ti, .int .i64 qa, .int .i64 bu, .int .i64 le, .int .i64 pb, .int .i64 pc, .int .i64 pj, .int .i64 pt, .int .i64 nw, .int .i64 la, .slice ea1 E.length ec1, .slice ka1 K.length kc1, .int .i64 tu, .slice fa1 F.length fc1, .slice ra1 R.length rc1, .int .i64 tk, .int .i64 ac, .int .i64 dr], .int .i64 0, .int .i64 cd]) (results_box3 _ Tryz.results10 rfl rfl rfl hXb _ Tryz.underlying32 sizeGate) rfl ⟨⟨ea1, ec1, ka1, kc1, fa1, fc1, ra1, rc1, vs, by rw [HS0.out]; rfl, by rw [HS0.out]; exact (HO.out.low hgV (by have := HB1.out; omega)).base (by have := HB1.out; omega)⟩, hlV w.heap.size w (by omega) HL.out⟩

end Go.Proofs.YtkndpkingmemoaaGreatDoor.Gat
