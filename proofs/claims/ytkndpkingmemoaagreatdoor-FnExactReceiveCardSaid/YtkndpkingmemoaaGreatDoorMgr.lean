/-
  The specification's l08Code and Submit.
  The specification's l08Answer.
  The specification's Receive.
-/
import Derived.Test.YtkndpkingmemoaaGreatDoorMgo
import Derived.Test.YtkndpkingmemoaaGreatDoorMgg
import Derived.Test.YtkndpkingmemoaaGreatDoorMgp
import Derived.Test.YtkndpkingmemoaaGreatDoorMgq
namespace Go.Proofs.YtkndpkingmemoaaGreatDoor.Gat
open Go.RowKit
open Lnk (bOne bAfter IOwn IIs YOwn YIs below_keep below_drew' bcell low_after low_alloc grown_of_below)
set_option linter.unusedVariables false
set_option linter.unusedSimpArgs false

theorem ne_eg : (39 : TypeId) ≠ 32 := by decide
/-- the code of what is handed in -/
def subC (ok : Bool) (nw de d c : Int) (bs : Nat) (pt t qu : Int) (en : Nat) (la : Int) (E : List Ev) : Int :=
  cond (!ok) 1 (cond (nw == 1000000000) 2 (cond (!inB 1 de d) 3 (cond (!inB 1 9 c) 4 (cond (decide ((40 : Int) < (bs : Int))) 5 (cond (!inB 1 pt t) 6 (cond (decide (qu ≤ (openN d E : Int))) 7 (cond ((en : Int) == 60 || la == 9999) 8 0)))))))
theorem subC_ok {ok : Bool} {nw de d c : Int} {bs : Nat} {pt t qu : Int} {en : Nat} {la : Int} {E : List Ev} (h : subC ok nw de d c bs pt t qu en la E = 0) : ok = true := by
  cases ok with
  | true => rfl
  | false => simp [subC] at h

set_option maxRecDepth 100000 in
set_option maxHeartbeats 8000000 in
theorem specCode_any (w : World) (de qu wi ti qa bu le pb pc pj pt nw la : Int) (ea : Option Addr) (en ec : Nat) (ka : Option Addr) (kn kc : Nat) (tu : Int) (fa : Option Addr) (fn fc : Nat) (ra : Option Addr) (rn rc : Nat) (tk ac dr : Int) (E : List Ev) (K : List Lk) (F R : List Int) (d c : Int) (bd : ByteArray) (t : Int) (h : GIs w.heap.size w ea en ka kn fa fn ra rn E K F R) (hbd : bd.size ≤ maxLen) :
    Calls Tryz.prog 39 #[.agg #[.int .i64 de, .int .i64 qu, .int .i64 wi, .int .i64 ti, .int .i64 qa, .int .i64 bu, .int .i64 le, .int .i64 pb, .int .i64 pc, .int .i64 pj, .int .i64 pt, .int .i64 nw, .int .i64 la, .slice ea en ec, .slice ka kn kc, .int .i64 tu, .slice fa fn fc, .slice ra rn rc, .int .i64 tk, .int .i64 ac, .int .i64 dr], .int .i64 d, .int .i64 c, .string bd, .int .i64 t] w fun e w' => e = .returned (.int .i64 (subC (gokB de qu wi ti qa bu le pb pc pj pt nw la en kn tu fn rn tk ac dr E K F R) nw de d c bd.size pt t qu en la E)) ∧ Below w.heap.size w w' := by
  obtain ⟨W0, hW0⟩ : ∃ W, W = w.alloc (.cells #[.int .i64 de, .int .i64 qu, .int .i64 wi, .int .i64 ti, .int .i64 qa, .int .i64 bu, .int .i64 le, .int .i64 pb, .int .i64 pc, .int .i64 pj, .int .i64 pt, .int .i64 nw, .int .i64 la, .slice ea en ec, .slice ka kn kc, .int .i64 tu, .slice fa fn fc, .slice ra rn rc, .int .i64 tk, .int .i64 ac, .int .i64 dr] 32) := ⟨_, rfl⟩
  have HA : Hid (Box W0 w.heap.size 32 [.int .i64 de, .int .i64 qu, .int .i64 wi, .int .i64 ti, .int .i64 qa, .int .i64 bu, .int .i64 le, .int .i64 pb, .int .i64 pc, .int .i64 pj, .int .i64 pt, .int .i64 nw, .int .i64 la, .slice ea en ec, .slice ka kn kc, .int .i64 tu, .slice fa fn fc, .slice ra rn rc, .int .i64 tk, .int .i64 ac, .int .i64 dr]) := Lib.hid (by rw [hW0]; exact Box.new w [.int .i64 de, .int .i64 qu, .int .i64 wi, .int .i64 ti, .int .i64 qa, .int .i64 bu, .int .i64 le, .int .i64 pb, .int .i64 pc, .int .i64 pj, .int .i64 pt, .int .i64 nw, .int .i64 la, .slice ea en ec, .slice ka kn kc, .int .i64 tu, .slice fa fn fc, .slice ra rn rc, .int .i64 tk, .int .i64 ac, .int .i64 dr] 32)
  have HL : Hid (Below w.heap.size w W0) := Lib.hid (by rw [hW0]; exact bOne _ _)
  have HWE := Lib.hid hW0
  have HG := Lib.hid h
  clear hW0 h
  unfold maxLen at hbd
  go_enter Tryz.func39, Tryz.ntmps39
  go_upto_region 1 with fail
  rw [← HWE.out]
  clear HWE
  go_wp2_with (first | (refine wpList_load_box rfl _ 32 rfl rfl HA.out _ Tryz.underlying32 sizeGate ?_) | fail)
  refine (specGateOk_any _ de qu wi ti qa bu le pb pc pj pt nw la ea en ec ka kn kc tu fa fn fc ra rn rc tk ac dr E K F R (HG.out.here HL.out)).mono ?_
  rintro e w2 ⟨⟨x, rfl, hx⟩, hb⟩
  have HGB := Lib.hid (gokB_of hx)
  have HXP := Lib.hid hx
  replace HA := Lib.hid (HA.out.below hb)
  replace HL := Lib.hid (low_after HL.out hb)
  clear hx hb
  have c0 := HA.out.cell 0 _ rfl
  have c1 := HA.out.cell 1 _ rfl
  have c2 := HA.out.cell 2 _ rfl
  have c10 := HA.out.cell 10 _ rfl
  have c11 := HA.out.cell 11 _ rfl
  have c12 := HA.out.cell 12 _ rfl
  have c13 := HA.out.cell 13 _ rfl
  cases x with
  | false =>
    go_wp2_with fail
    go_ret
    exact ⟨(show Ending.returned (Value.int .i64 1) = _ from by unfold subC; rw [HGB.out]; simp only [cond_true, cond_false, Bool.not_true, Bool.not_false, Bool.or_true, Bool.true_or, Bool.or_false, Bool.false_or]), HL.out⟩
  | true =>
  have HP := Lib.hid (HXP.out.1 rfl)
  clear HXP
  cases h2 : (nw == 1000000000) with
  | true =>
    go_wp2_with fail
    go_ret
    exact ⟨(show Ending.returned (Value.int .i64 2) = _ from by unfold subC; rw [HGB.out]; simp only [h2, cond_true, cond_false, Bool.not_true, Bool.not_false, Bool.or_true, Bool.true_or, Bool.or_false, Bool.false_or]), HL.out⟩
  | false =>
  go_wp2_with fail
  refine (in_any d 1 de _).mono ?_
  rintro e v ⟨rfl, hb⟩
  subst hb
  cases h3 : inB 1 de d with
  | false =>
    go_wp2_with fail
    go_ret
    exact ⟨(show Ending.returned (Value.int .i64 3) = _ from by unfold subC; rw [HGB.out]; simp only [h2, h3, cond_true, cond_false, Bool.not_true, Bool.not_false, Bool.or_true, Bool.true_or, Bool.or_false, Bool.false_or]), HL.out⟩
  | true =>
  go_wp2_with fail
  refine (in_any c 1 9 _).mono ?_
  rintro e v ⟨rfl, hb⟩
  subst hb
  cases h4 : inB 1 9 c with
  | false =>
    go_wp2_with fail
    go_ret
    exact ⟨(show Ending.returned (Value.int .i64 4) = _ from by unfold subC; rw [HGB.out]; simp only [h2, h3, h4, cond_true, cond_false, Bool.not_true, Bool.not_false, Bool.or_true, Bool.true_or, Bool.or_false, Bool.false_or]), HL.out⟩
  | true =>
  cases h5 : decide ((40 : Int) < (bd.size : Int)) with
  | true =>
    go_wp2_with fail
    go_ret
    exact ⟨(show Ending.returned (Value.int .i64 5) = _ from by unfold subC; rw [HGB.out]; simp only [h2, h3, h4, h5, cond_true, cond_false, Bool.not_true, Bool.not_false, Bool.or_true, Bool.true_or, Bool.or_false, Bool.false_or]), HL.out⟩
  | false =>
  go_wp2_with fail
  refine (in_any t 1 pt _).mono ?_
  rintro e v ⟨rfl, hb⟩
  subst hb
  cases h6 : inB 1 pt t with
  | false =>
    go_wp2_with fail
    go_ret
    exact ⟨(show Ending.returned (Value.int .i64 6) = _ from by unfold subC; rw [HGB.out]; simp only [h2, h3, h4, h5, h6, cond_true, cond_false, Bool.not_true, Bool.not_false, Bool.or_true, Bool.true_or, Bool.or_false, Bool.false_or]), HL.out⟩
  | true =>
  clear c0 c1 c2 c10 c11 c12 c13
  go_upto_region 13 with fail
  have HQ := Lib.hid (below_drew' (Below.refl w2.heap.size w2))
  have HT := Lib.hid (HG.out.here (low_after HL.out HQ.out))
  refine wp_region_held_drew (S := fun w' => (Box w' w.heap.size 32 [.int .i64 de, .int .i64 qu, .int .i64 wi, .int .i64 ti, .int .i64 qa, .int .i64 bu, .int .i64 le, .int .i64 pb, .int .i64 pc, .int .i64 pj, .int .i64 pt, .int .i64 nw, .int .i64 la, .slice ea en ec, .slice ka kn kc, .int .i64 tu, .slice fa fn fc, .slice ra rn rc, .int .i64 tk, .int .i64 ac, .int .i64 dr])) (by kernel_rfl) (HA.out.below HQ.out) (fun hHeld => ?_)
  replace HA := Lib.hid (HA.out.below HQ.out)
  replace HL := Lib.hid (low_after HL.out HQ.out)
  clear HQ
  refine wpAnyH_take (i := 0) (oi := { dst := some _, op := _, type := _, pos := _, after := _, guard := _ }) (v := ?_) rfl (by kernel_rfl) (by kernel_rfl) (by kernel_rfl) (fun _ _ _ h => h) ?_ (by with_reducible assumption) ?_
  rotate_left 1
  focus (refine Or.inl ⟨by rfl, ?_⟩; intro wq hSw; refine exec_load_box ?_ 32 ?_ ?_ hSw _ Tryz.underlying32 sizeGate; rotate_left 1; rfl; rfl)
  try simp only [Act.put, List.setIfInBounds_toArray, List.set_cons_zero, List.set_cons_succ]
  refine wpAnyH_take (i := 1) (oi := { dst := some _, op := _, type := _, pos := _, after := _, guard := _ }) (v := ?_) rfl (by kernel_rfl) (by kernel_rfl) (by kernel_rfl) (fun _ _ _ h => h) ?_ (by with_reducible assumption) ?_
  rotate_left 1
  focus (refine Or.inl ⟨by rfl, ?_⟩; intro wq hSw; go_simp; try with_reducible rfl)
  try simp only [Act.put, List.setIfInBounds_toArray, List.set_cons_zero, List.set_cons_succ]
  refine wpAnyH_take (i := 3) (oi := { dst := some _, op := _, type := _, pos := _, after := _, guard := _ }) (v := ?_) rfl (by kernel_rfl) (by kernel_rfl) (by kernel_rfl) (fun _ _ _ h => h) ?_ (by with_reducible assumption) ?_
  rotate_left 1
  focus (refine Or.inl ⟨by rfl, ?_⟩; intro wq hSw; go_simp; try with_reducible rfl)
  try simp only [Act.put, List.setIfInBounds_toArray, List.set_cons_zero, List.set_cons_succ]
  refine wpAnyH_take (i := 4) (oi := { dst := some _, op := _, type := _, pos := _, after := _, guard := _ }) (v := ?_) rfl (by kernel_rfl) (by kernel_rfl) (by kernel_rfl) (fun _ _ _ h => h) ?_ (by with_reducible assumption) ?_
  rotate_left 1
  focus (refine Or.inl ⟨by rfl, ?_⟩; intro wq hSw; go_simp; try with_reducible rfl)
  try simp only [Act.put, List.setIfInBounds_toArray, List.set_cons_zero, List.set_cons_succ]
  refine wpAnyH_take (i := 5) (oi := { dst := some _, op := _, type := _, pos := _, after := _, guard := _ }) (v := ?_) rfl (by kernel_rfl) (by kernel_rfl) (by kernel_rfl) (fun _ _ _ h => h) ?_ (by with_reducible assumption) ?_
  rotate_left 1
  focus (refine Or.inl ⟨by rfl, ?_⟩; intro wq hSw; have q1 := hSw.cell 1 _ rfl; go_simp; try with_reducible rfl)
  try simp only [Act.put, List.setIfInBounds_toArray, List.set_cons_zero, List.set_cons_succ]
  refine wpAnyH_ready (rs := [2]) (by kernel_rfl) (by simp) ?_
  refine AllReadyH.cons rfl (fun KA hKA => ?_) AllReadyH.nil
  go_simp
  refine (specOpenOf_any _ de qu wi ti qa bu le pb pc pj pt nw la ea en ec ka kn kc tu fa fn fc ra rn rc tk ac dr E K F R d HT.out).mono ?_
  rintro e v1 ⟨rfl, hb⟩
  replace HA := Lib.hid (HA.out.below hb)
  replace HL := Lib.hid (low_after HL.out hb)
  clear hb hHeld HT
  dsimp only
  refine hKA.out _ _ (HA.out) (fun hHeld => ?_)
  clear hKA
  try simp only [Act.put, List.setIfInBounds_toArray, List.set_cons_zero, List.set_cons_succ]
  refine wpAnyH_take (i := 6) (oi := { dst := some _, op := _, type := _, pos := _, after := _, guard := _ }) (v := ?_) rfl (by kernel_rfl) (by kernel_rfl) (by kernel_rfl) (fun _ _ _ h => h) ?_ (by with_reducible assumption) ?_
  rotate_left 1
  focus (refine Or.inl ⟨by rfl, ?_⟩; intro wq hSw; go_simp; try with_reducible rfl)
  try simp only [Act.put, List.setIfInBounds_toArray, List.set_cons_zero, List.set_cons_succ]
  refine wpAnyH_take (i := 7) (oi := { dst := some _, op := _, type := _, pos := _, after := _, guard := _ }) (v := ?_) rfl (by kernel_rfl) (by kernel_rfl) (by kernel_rfl) (fun _ _ _ h => h) ?_ (by with_reducible assumption) ?_
  rotate_left 1
  focus (refine Or.inl ⟨by rfl, ?_⟩; intro wq hSw; go_simp; try with_reducible rfl)
  try simp only [Act.put, List.setIfInBounds_toArray, List.set_cons_zero, List.set_cons_succ]
  refine wpAnyH_done (by kernel_rfl) ?_ _
  have c2 := HA.out.cell 12 _ rfl
  have c13 := HA.out.cell 13 _ rfl
  cases h7 : decide (qu ≤ (openN d E : Int)) with
  | true =>
    go_wp2_with fail
    go_ret
    exact ⟨(show Ending.returned (Value.int .i64 7) = _ from by unfold subC; rw [HGB.out]; simp only [h2, h3, h4, h5, h6, h7, cond_true, cond_false, Bool.not_true, Bool.not_false, Bool.or_true, Bool.true_or, Bool.or_false, Bool.false_or]), HL.out⟩
  | false =>
  cases h8 : ((en : Int) == 60) with
  | true =>
    go_wp2_with fail
    go_ret
    exact ⟨(show Ending.returned (Value.int .i64 8) = _ from by unfold subC; rw [HGB.out]; simp only [h2, h3, h4, h5, h6, h7, h8, cond_true, cond_false, Bool.not_true, Bool.not_false, Bool.or_true, Bool.true_or, Bool.or_false, Bool.false_or]), HL.out⟩
  | false =>
  cases h9 : (la == 9999) with
  | true =>
    go_wp2_with fail
    go_ret
    exact ⟨(show Ending.returned (Value.int .i64 8) = _ from by unfold subC; rw [HGB.out]; simp only [h2, h3, h4, h5, h6, h7, h8, h9, cond_true, cond_false, Bool.not_true, Bool.not_false, Bool.or_true, Bool.true_or, Bool.or_false, Bool.false_or]), HL.out⟩
  | false =>
  go_wp2_with fail
  go_ret
  exact ⟨(show Ending.returned (Value.int .i64 0) = _ from by unfold subC; rw [HGB.out]; simp only [h2, h3, h4, h5, h6, h7, h8, h9, cond_true, cond_false, Bool.not_true, Bool.not_false, Bool.or_true, Bool.true_or, Bool.or_false, Bool.false_or]), HL.out⟩

/-- a gate and two numbers that were handed back -/
def GEnd2 (w w' : World) (de qu wi ti qa bu le pb pc pj pt nw la tu tk ac dr : Int) (E : List Ev) (K : List Lk) (F R : List Int) (x y : Int) (e : Ending) : Prop :=
  (∃ ea ec ka kc fa fc ra rc vs, e = .returned (.tuple #[.agg #[.int .i64 de, .int .i64 qu, .int .i64 wi, .int .i64 ti, .int .i64 qa, .int .i64 bu, .int .i64 le, .int .i64 pb, .int .i64 pc, .int .i64 pj, .int .i64 pt, .int .i64 nw, .int .i64 la, .slice ea E.length ec, .slice ka K.length kc, .int .i64 tu, .slice fa F.length fc, .slice ra R.length rc, .int .i64 tk, .int .i64 ac, .int .i64 dr], .int .i64 x, .int .i64 y]) ∧ GOwn w.heap.size w' (.slice ea E.length ec) (.slice ka K.length kc) (.slice fa F.length fc) (.slice ra R.length rc) vs E K F R) ∧ Below w.heap.size w w'

set_option maxRecDepth 100000 in
set_option maxHeartbeats 8000000 in
theorem specSubmit_any (w : World) (de qu wi ti qa bu le pb pc pj pt nw la : Int) (ea : Option Addr) (en ec : Nat) (ka : Option Addr) (kn kc : Nat) (tu : Int) (fa : Option Addr) (fn fc : Nat) (ra : Option Addr) (rn rc : Nat) (tk ac dr : Int) (E : List Ev) (K : List Lk) (F R : List Int) (d c : Int) (bd : ByteArray) (t : Int) (h : GIs w.heap.size w ea en ka kn fa fn ra rn E K F R) (hs : Small en kn fn rn K) (hbd : bd.size ≤ maxLen) :
    Calls Tryz.prog 11 #[.agg #[.int .i64 de, .int .i64 qu, .int .i64 wi, .int .i64 ti, .int .i64 qa, .int .i64 bu, .int .i64 le, .int .i64 pb, .int .i64 pc, .int .i64 pj, .int .i64 pt, .int .i64 nw, .int .i64 la, .slice ea en ec, .slice ka kn kc, .int .i64 tu, .slice fa fn fc, .slice ra rn rc, .int .i64 tk, .int .i64 ac, .int .i64 dr], .int .i64 d, .int .i64 c, .string bd, .int .i64 t] w fun e w' => GEnd2 w w' de qu wi ti qa bu le pb pc pj pt nw (sel (subC (gokB de qu wi ti qa bu le pb pc pj pt nw la en kn tu fn rn tk ac dr E K F R) nw de d c bd.size pt t qu en la E == 0) (la + 1) la) tu (sel (subC (gokB de qu wi ti qa bu le pb pc pj pt nw la en kn tu fn rn tk ac dr E K F R) nw de d c bd.size pt t qu en la E == 0) (tk + 1) tk) ac dr (sel (subC (gokB de qu wi ti qa bu le pb pc pj pt nw la en kn tu fn rn tk ac dr E K F R) nw de d c bd.size pt t qu en la E == 0) (E ++ [⟨la + 1, d, c, bd, nw, t, 0, nw, 0⟩]) E) K F R (sel (subC (gokB de qu wi ti qa bu le pb pc pj pt nw la en kn tu fn rn tk ac dr E K F R) nw de d c bd.size pt t qu en la E == 0) (la + 1) 0) (subC (gokB de qu wi ti qa bu le pb pc pj pt nw la en kn tu fn rn tk ac dr E K F R) nw de d c bd.size pt t qu en la E) e := by
  obtain ⟨W0, hW0⟩ : ∃ W, W = (w.alloc (.cells #[.int .i64 de, .int .i64 qu, .int .i64 wi, .int .i64 ti, .int .i64 qa, .int .i64 bu, .int .i64 le, .int .i64 pb, .int .i64 pc, .int .i64 pj, .int .i64 pt, .int .i64 nw, .int .i64 la, .slice ea en ec, .slice ka kn kc, .int .i64 tu, .slice fa fn fc, .slice ra rn rc, .int .i64 tk, .int .i64 ac, .int .i64 dr] 32)).alloc (.cells #[.int .i64 0, .int .i64 0, .int .i64 0, .int .i64 0, .int .i64 0, .int .i64 0, .int .i64 0, .int .i64 0, .int .i64 0, .int .i64 0, .int .i64 0, .int .i64 0, .int .i64 0, .slice none 0 0, .slice none 0 0, .int .i64 0, .slice none 0 0, .slice none 0 0, .int .i64 0, .int .i64 0, .int .i64 0] 32) := ⟨_, rfl⟩
  have hb01 := bOne w (.cells #[.int .i64 de, .int .i64 qu, .int .i64 wi, .int .i64 ti, .int .i64 qa, .int .i64 bu, .int .i64 le, .int .i64 pb, .int .i64 pc, .int .i64 pj, .int .i64 pt, .int .i64 nw, .int .i64 la, .slice ea en ec, .slice ka kn kc, .int .i64 tu, .slice fa fn fc, .slice ra rn rc, .int .i64 tk, .int .i64 ac, .int .i64 dr] 32)
  have hb02 := bOne (w.alloc (.cells #[.int .i64 de, .int .i64 qu, .int .i64 wi, .int .i64 ti, .int .i64 qa, .int .i64 bu, .int .i64 le, .int .i64 pb, .int .i64 pc, .int .i64 pj, .int .i64 pt, .int .i64 nw, .int .i64 la, .slice ea en ec, .slice ka kn kc, .int .i64 tu, .slice fa fn fc, .slice ra rn rc, .int .i64 tk, .int .i64 ac, .int .i64 dr] 32)) (.cells #[.int .i64 0, .int .i64 0, .int .i64 0, .int .i64 0, .int .i64 0, .int .i64 0, .int .i64 0, .int .i64 0, .int .i64 0, .int .i64 0, .int .i64 0, .int .i64 0, .int .i64 0, .slice none 0 0, .slice none 0 0, .int .i64 0, .slice none 0 0, .slice none 0 0, .int .i64 0, .int .i64 0, .int .i64 0] 32)
  have HA : Hid (Box W0 w.heap.size 32 [.int .i64 de, .int .i64 qu, .int .i64 wi, .int .i64 ti, .int .i64 qa, .int .i64 bu, .int .i64 le, .int .i64 pb, .int .i64 pc, .int .i64 pj, .int .i64 pt, .int .i64 nw, .int .i64 la, .slice ea en ec, .slice ka kn kc, .int .i64 tu, .slice fa fn fc, .slice ra rn rc, .int .i64 tk, .int .i64 ac, .int .i64 dr]) := Lib.hid (by rw [hW0]; exact (Box.new w [.int .i64 de, .int .i64 qu, .int .i64 wi, .int .i64 ti, .int .i64 qa, .int .i64 bu, .int .i64 le, .int .i64 pb, .int .i64 pc, .int .i64 pj, .int .i64 pt, .int .i64 nw, .int .i64 la, .slice ea en ec, .slice ka kn kc, .int .i64 tu, .slice fa fn fc, .slice ra rn rc, .int .i64 tk, .int .i64 ac, .int .i64 dr] 32).below hb02)
  have HR : Hid (Box W0 (w.heap.size + 1) 32 [.int .i64 0, .int .i64 0, .int .i64 0, .int .i64 0, .int .i64 0, .int .i64 0, .int .i64 0, .int .i64 0, .int .i64 0, .int .i64 0, .int .i64 0, .int .i64 0, .int .i64 0, .slice none 0 0, .slice none 0 0, .int .i64 0, .slice none 0 0, .slice none 0 0, .int .i64 0, .int .i64 0, .int .i64 0]) := Lib.hid (by
    rw [hW0]
    have := Box.new (w.alloc (.cells #[.int .i64 de, .int .i64 qu, .int .i64 wi, .int .i64 ti, .int .i64 qa, .int .i64 bu, .int .i64 le, .int .i64 pb, .int .i64 pc, .int .i64 pj, .int .i64 pt, .int .i64 nw, .int .i64 la, .slice ea en ec, .slice ka kn kc, .int .i64 tu, .slice fa fn fc, .slice ra rn rc, .int .i64 tk, .int .i64 ac, .int .i64 dr] 32)) [.int .i64 0, .int .i64 0, .int .i64 0, .int .i64 0, .int .i64 0, .int .i64 0, .int .i64 0, .int .i64 0, .int .i64 0, .int .i64 0, .int .i64 0, .int .i64 0, .int .i64 0, .slice none 0 0, .slice none 0 0, .int .i64 0, .slice none 0 0, .slice none 0 0, .int .i64 0, .int .i64 0, .int .i64 0] 32
    simpa using this)
  have HL : Hid (Below w.heap.size w W0) := Lib.hid (by rw [hW0]; exact hb01.trans (hb02.mono (by simp)))
  have HS0 := Lib.hid (show W0.heap.size = w.heap.size + 1 + 1 by rw [hW0]; simp)
  have HWE := Lib.hid hW0
  have HG := Lib.hid h
  have HSM := Lib.hid hs
  have HBD := Lib.hid hbd
  have HT0 := Lib.hid (show GIs W0.heap.size W0 ea en ka kn fa fn ra rn E K F R from h.here HL.out)
  clear hW0 hb01 hb02 h hs hbd
  go_enter Tryz.func11, Tryz.ntmps11
  go_upto_region 1 with fail
  rw [← HWE.out]
  clear HWE
  obtain ⟨B1, hB1⟩ : ∃ B, B = W0.heap.size := ⟨_, rfl⟩
  have HB1 := Lib.hid (show w.heap.size + 1 < B1 by rw [hB1, HS0.out]; omega)
  go_wp2_with (first | (refine wpList_load_box rfl _ 32 rfl rfl HA.out _ Tryz.underlying32 sizeGate ?_) | fail)
  refine (specGCopy_any _ de qu wi ti qa bu le pb pc pj pt nw la ea en ec ka kn kc tu fa fn fc ra rn rc tk ac dr E K F R HT0.out HSM.out).mono ?_
  rintro e w1 ⟨⟨ea1, ec1, ka1, kc1, fa1, fc1, ra1, rc1, vs, rfl, ho⟩, hb⟩
  rw [← hB1] at ho
  obtain ⟨lE, hlE⟩ : ∃ l, l = E.length := ⟨_, rfl⟩
  obtain ⟨lK, hlK⟩ : ∃ l, l = K.length := ⟨_, rfl⟩
  obtain ⟨lF, hlF⟩ : ∃ l, l = F.length := ⟨_, rfl⟩
  obtain ⟨lR, hlR⟩ : ∃ l, l = R.length := ⟨_, rfl⟩
  rw [← hlE, ← hlK, ← hlF, ← hlR] at ho ⊢
  have HlE := Lib.hid hlE
  have HlK := Lib.hid hlK
  have HlF := Lib.hid hlF
  have HlR := Lib.hid hlR
  have HO := Lib.hid ho
  have HBW := Lib.hid (show B1 ≤ w1.heap.size by rw [hB1]; exact hb.size)
  replace HA := Lib.hid (HA.out.below hb)
  replace HR := Lib.hid (HR.out.below hb)
  replace HL := Lib.hid (low_after HL.out hb)
  clear hb ho hlE hlK hlF hlR hB1 HS0 HT0
  obtain ⟨k3, hk3⟩ : ∃ k, k = w1.heap.size := ⟨_, rfl⟩
  go_upto_region 2 with (first | (refine wpList_store_box rfl _ _ 32 rfl rfl [.int .i64 de, .int .i64 qu, .int .i64 wi, .int .i64 ti, .int .i64 qa, .int .i64 bu, .int .i64 le, .int .i64 pb, .int .i64 pc, .int .i64 pj, .int .i64 pt, .int .i64 nw, .int .i64 la, .slice ea1 lE ec1, .slice ka1 lK kc1, .int .i64 tu, .slice fa1 lF fc1, .slice ra1 lR rc1, .int .i64 tk, .int .i64 ac, .int .i64 dr] rfl (Box.new _ [.int .i64 0, .int .i64 0, .int .i64 0, .int .i64 0, .int .i64 0, .int .i64 0, .int .i64 0, .int .i64 0, .int .i64 0, .int .i64 0, .int .i64 0, .int .i64 0, .int .i64 0, .slice none 0 0, .slice none 0 0, .int .i64 0, .slice none 0 0, .slice none 0 0, .int .i64 0, .int .i64 0, .int .i64 0] 32) sizeGate rfl rfl ?_; intro V0 hXb hgV hlV; have HX := Lib.hid hXb; have HBV := Lib.hid (hlV w1.heap.size w1 (Nat.le_refl _) (bOne w1 _)); clear hXb hgV hlV) | fail)
  simp only [Act.put]
  rw [← hk3] at HX ⊢
  have HK3 := Lib.hid (show B1 ≤ k3 by rw [hk3]; exact HBW.out)
  clear hk3
  replace HA := Lib.hid (HA.out.below HBV.out)
  replace HR := Lib.hid (HR.out.below HBV.out)
  replace HL := Lib.hid (low_after HL.out HBV.out)
  replace HO := Lib.hid (HO.out.below HBV.out)
  replace HBW := Lib.hid (Nat.le_trans HBW.out HBV.out.size)
  clear HBV
  go_wp2_with (first | (refine wpList_load_box rfl _ 32 rfl rfl HA.out _ Tryz.underlying32 sizeGate ?_) | fail)
  refine (specCode_any _ de qu wi ti qa bu le pb pc pj pt nw la ea en ec ka kn kc tu fa fn fc ra rn rc tk ac dr E K F R d c bd t (HG.out.here HL.out) HBD.out).mono ?_
  rintro e w2 ⟨rfl, hb⟩
  obtain ⟨z, hz⟩ : ∃ z, z = subC (gokB de qu wi ti qa bu le pb pc pj pt nw la en kn tu fn rn tk ac dr E K F R) nw de d c bd.size pt t qu en la E := ⟨_, rfl⟩
  rw [← hz]
  have HZ := Lib.hid hz
  replace HA := Lib.hid (HA.out.below hb)
  replace HR := Lib.hid (HR.out.below hb)
  replace HX := Lib.hid (HX.out.below hb)
  replace HO := Lib.hid (HO.out.below hb)
  replace HL := Lib.hid (low_after HL.out hb)
  replace HBW := Lib.hid (Nat.le_trans HBW.out hb.size)
  clear hb hz
  cases h0 : (z == 0) with
  | false =>
    have hne : (z != 0) = true := by simp at h0 ⊢; exact h0
    have HS0 := Lib.hid (show (subC (gokB de qu wi ti qa bu le pb pc pj pt nw la en kn tu fn rn tk ac dr E K F R) nw de d c bd.size pt t qu en la E == 0) = false from by rw [← HZ.out]; exact h0)
    go_wp2_with (first | (refine wpList_load_box rfl _ 32 rfl rfl HX.out _ Tryz.underlying32 sizeGate ?_) | (refine wpList_store_box rfl _ _ 32 rfl rfl [.int .i64 de, .int .i64 qu, .int .i64 wi, .int .i64 ti, .int .i64 qa, .int .i64 bu, .int .i64 le, .int .i64 pb, .int .i64 pc, .int .i64 pj, .int .i64 pt, .int .i64 nw, .int .i64 la, .slice ea1 lE ec1, .slice ka1 lK kc1, .int .i64 tu, .slice fa1 lF fc1, .slice ra1 lR rc1, .int .i64 tk, .int .i64 ac, .int .i64 dr] rfl HR.out sizeGate rfl rfl ?_; intro V hXb hgV hlV) | fail)
    rw [HS0.out, sel_no, sel_no, sel_no, sel_no]
    exact bodyPost_ret (v := .tuple #[.agg #[.int .i64 de, .int .i64 qu, .int .i64 wi, .int .i64 ti, .int .i64 qa, .int .i64 bu, .int .i64 le, .int .i64 pb, .int .i64 pc, .int .i64 pj, .int .i64 pt, .int .i64 nw, .int .i64 la, .slice ea1 lE ec1, .slice ka1 lK kc1, .int .i64 tu, .slice fa1 lF fc1, .slice ra1 lR rc1, .int .i64 tk, .int .i64 ac, .int .i64 dr], .int .i64 0, .int .i64 z]) (results_box3 _ Tryz.results11 rfl rfl rfl hXb _ Tryz.underlying32 sizeGate) rfl ⟨⟨ea1, ec1, ka1, kc1, fa1, fc1, ra1, rc1, vs, by rw [← HlE.out, ← HlK.out, ← HlF.out, ← HlR.out, HZ.out], by rw [← HlE.out, ← HlK.out, ← HlF.out, ← HlR.out]; exact (HO.out.low hgV (by have := HB1.out; omega)).base (by have := HB1.out; omega)⟩, hlV w.heap.size w (by omega) HL.out⟩
  | true =>
    have hz0 : z = 0 := by simpa using h0
    subst hz0
    have HS0 := Lib.hid (show (subC (gokB de qu wi ti qa bu le pb pc pj pt nw la en kn tu fn rn tk ac dr E K F R) nw de d c bd.size pt t qu en la E == 0) = true from by rw [← HZ.out]; rfl)
    have HP := Lib.hid (gokB_true (subC_ok HZ.out.symm))
    have hla : 0 ≤ la ∧ la ≤ 9999 := HP.out.2.2.1
    have htk : 0 ≤ tk ∧ tk ≤ 9999 := HP.out.2.2.2.2.2.2.2.1
    have hen : en ≤ 60 := HP.out.2.2.2.2.1.1
    have hw1 : IntKind.i64.wrap (la + 1) = la + 1 := IntWalk.i64_in _ (by omega)
    have hw2 : IntKind.i64.wrap (tk + 1) = tk + 1 := IntWalk.i64_in _ (by omega)
    have o12 := HX.out.cell 12 _ rfl
    have f12 := HX.out.frozen 12
    clear h0
    go_upto_region 6 with fail
    obtain ⟨V5, hV⟩ : ∃ V, V = w2.setCell ⟨k3, 12, none⟩ (.int .i64 (la + 1)) := ⟨_, rfl⟩
    rw [← hV]
    have hg : w2.grownBy V5 (some k3) := by rw [hV]; exact store_grown [.int .i64 (la + 1)] 12 _
    have HXn := Lib.hid (show Box V5 k3 32 [.int .i64 de, .int .i64 qu, .int .i64 wi, .int .i64 ti, .int .i64 qa, .int .i64 bu, .int .i64 le, .int .i64 pb, .int .i64 pc, .int .i64 pj, .int .i64 pt, .int .i64 nw, .int .i64 (la + 1), .slice ea1 lE ec1, .slice ka1 lK kc1, .int .i64 tu, .slice fa1 lF fc1, .slice ra1 lR rc1, .int .i64 tk, .int .i64 ac, .int .i64 dr] by rw [hV]; exact Box.store [.int .i64 (la + 1)] 12 _ _ HX.out)
    replace HL := Lib.hid (show Below w.heap.size w V5 by rw [hV]; exact store_below (by have := HK3.out; have := HB1.out; omega) [.int .i64 (la + 1)] 12 _ _ HL.out)
    replace HR := Lib.hid (HR.out.grown hg (by have := HK3.out; have := HB1.out; simp; omega))
    replace HA := Lib.hid (HA.out.grown hg (by have := HK3.out; have := HB1.out; simp; omega))
    replace HO := Lib.hid (HO.out.offbox HX.out hg)
    replace HBW := Lib.hid (Nat.le_trans HBW.out hg.size)
    replace HX := HXn
    clear hV hg HXn
    clear o12 f12
    have o18 := HX.out.cell 18 _ rfl
    have f18 := HX.out.frozen 18
    go_upto_region 7 with fail
    obtain ⟨V6, hV⟩ : ∃ V, V = V5.setCell ⟨k3, 18, none⟩ (.int .i64 (tk + 1)) := ⟨_, rfl⟩
    rw [← hV]
    have hg : V5.grownBy V6 (some k3) := by rw [hV]; exact store_grown [.int .i64 (tk + 1)] 18 _
    have HXn := Lib.hid (show Box V6 k3 32 [.int .i64 de, .int .i64 qu, .int .i64 wi, .int .i64 ti, .int .i64 qa, .int .i64 bu, .int .i64 le, .int .i64 pb, .int .i64 pc, .int .i64 pj, .int .i64 pt, .int .i64 nw, .int .i64 (la + 1), .slice ea1 lE ec1, .slice ka1 lK kc1, .int .i64 tu, .slice fa1 lF fc1, .slice ra1 lR rc1, .int .i64 (tk + 1), .int .i64 ac, .int .i64 dr] by rw [hV]; exact Box.store [.int .i64 (tk + 1)] 18 _ _ HX.out)
    replace HL := Lib.hid (show Below w.heap.size w V6 by rw [hV]; exact store_below (by have := HK3.out; have := HB1.out; omega) [.int .i64 (tk + 1)] 18 _ _ HL.out)
    replace HR := Lib.hid (HR.out.grown hg (by have := HK3.out; have := HB1.out; simp; omega))
    replace HA := Lib.hid (HA.out.grown hg (by have := HK3.out; have := HB1.out; simp; omega))
    replace HO := Lib.hid (HO.out.offbox HX.out hg)
    replace HBW := Lib.hid (Nat.le_trans HBW.out hg.size)
    replace HX := HXn
    clear hV hg HXn
    clear o18 f18 hw1 hw2
    have o13 := HX.out.cell 13 _ rfl
    have o12 := HX.out.cell 12 _ rfl
    have c11 := HA.out.cell 11 _ rfl
    have HEN := Lib.hid (show E.length ≤ 60 by have := HG.out.ev.row.hlen; omega)
    clear hla htk hen
    have hb := bOne V6 (.cells #[.int .i64 (la + 1), .int .i64 d, .int .i64 c, .string bd, .int .i64 nw, .int .i64 t, .int .i64 0, .int .i64 nw, .int .i64 0] 39)
    have HT1 := Lib.hid (ris_ev V6 39 ⟨la + 1, d, c, bd, nw, t, 0, nw, 0⟩)
    have HAP := Lib.hid (app_row (T := 28) (ty := 28) (cap := 1) (len := 1) evS Tryz.underlying28 infoEvent evZ (by decide) (by omega) (HO.out.below hb).evO HT1.out (flat_ev_one _) (by have := HEN.out; omega) (Nat.le_trans HBW.out hb.size))
    have HBB := Lib.hid hb
    clear hb
    go_upto_region 8 with (first | (at_builtin; refine Lnk.wpList_append_run rfl _ _ 28 rfl _ _ rfl rfl HAP.out ?_; intro v' w6 happ; obtain ⟨ea2, ec2, rfl⟩ := ROwn.shapeL happ.1 (lE + 1) (by rw [List.length_append, ← HlE.out]; rfl); have hkb : ∀ q, (Value.slice ea1 lE ec1).ownBlock = some q → B1 ≤ q := fun q hq => (World.ownsRow.lt HO.out.evO q hq).1; have hne : ∀ q, q < B1 → some q ≠ (Value.slice ea1 lE ec1).ownBlock := fun q hq e => (by have := hkb q e.symm; omega); have hgz := happ.2.1; have hX3 : (Value.slice ea1 lE ec1).ownBlock = none ∨ (Value.slice ea1 lE ec1).ownBlock ≠ some k3 := (evR_at.2 HO.out.evO).offbox HX.out ne_eg; have HX7 := Lib.hid ((HX.out.below HBB.out).grown hgz (by rcases hX3 with h | h; (rw [h]; simp); exact Ne.symm h)); have HA7 := Lib.hid ((HA.out.below HBB.out).grown hgz (hne _ (by have := HB1.out; omega))); have HR7 := Lib.hid ((HR.out.below HBB.out).grown hgz (hne _ (by have := HB1.out; omega))); have HL7 := Lib.hid ((low_after HL.out HBB.out).grown hgz (low_after HL.out HBB.out).size (fun q hq => by have := hkb q hq; have := HB1.out; omega)); have HO7 := Lib.hid ((HO.out.below HBB.out).setEv hgz happ.1 happ.2.2 (by intro e he; rcases List.mem_append.1 he with he | he; exact HO.out.body e he; (rw [List.mem_singleton.1 he]; exact HBD.out))); have HBW7 := Lib.hid (Nat.le_trans (Nat.le_trans HBW.out HBB.out.size) hgz.size); have p13 := HX7.out.cell 13 _ rfl; have g13 := HX7.out.frozen 13; clear happ hkb hne hgz hX3 o13) | fail)
    clear o12 c11
    replace HX := HX7
    replace HA := HA7
    replace HR := HR7
    replace HL := HL7
    replace HO := HO7
    replace HBW := HBW7
    clear p13 g13 HX7 HA7 HR7 HL7 HO7 HBW7 HAP HT1 HBB
    obtain ⟨V7, hV⟩ : ∃ V, V = w6.setCell ⟨k3, 13, none⟩ (.slice ea2 (lE + 1) ec2) := ⟨_, rfl⟩
    rw [← hV]
    have hg : w6.grownBy V7 (some k3) := by rw [hV]; exact store_grown [.slice ea2 (lE + 1) ec2] 13 _
    have HXn := Lib.hid (show Box V7 k3 32 [.int .i64 de, .int .i64 qu, .int .i64 wi, .int .i64 ti, .int .i64 qa, .int .i64 bu, .int .i64 le, .int .i64 pb, .int .i64 pc, .int .i64 pj, .int .i64 pt, .int .i64 nw, .int .i64 (la + 1), .slice ea2 (lE + 1) ec2, .slice ka1 lK kc1, .int .i64 tu, .slice fa1 lF fc1, .slice ra1 lR rc1, .int .i64 (tk + 1), .int .i64 ac, .int .i64 dr] by rw [hV]; exact Box.store [.slice ea2 (lE + 1) ec2] 13 _ _ HX.out)
    replace HL := Lib.hid (show Below w.heap.size w V7 by rw [hV]; exact store_below (by have := HK3.out; have := HB1.out; omega) [.slice ea2 (lE + 1) ec2] 13 _ _ HL.out)
    replace HR := Lib.hid (HR.out.grown hg (by have := HK3.out; have := HB1.out; simp; omega))
    replace HA := Lib.hid (HA.out.grown hg (by have := HK3.out; have := HB1.out; simp; omega))
    replace HO := Lib.hid (HO.out.offbox HX.out hg)
    replace HBW := Lib.hid (Nat.le_trans HBW.out hg.size)
    replace HX := HXn
    clear hV hg HXn
    go_upto_region 8 with fail
    have HQ := Lib.hid (below_drew' (Below.refl V7.heap.size V7))
    refine wp_region_held_drew (S := fun w' => (Box w' k3 32 [.int .i64 de, .int .i64 qu, .int .i64 wi, .int .i64 ti, .int .i64 qa, .int .i64 bu, .int .i64 le, .int .i64 pb, .int .i64 pc, .int .i64 pj, .int .i64 pt, .int .i64 nw, .int .i64 (la + 1), .slice ea2 (lE + 1) ec2, .slice ka1 lK kc1, .int .i64 tu, .slice fa1 lF fc1, .slice ra1 lR rc1, .int .i64 (tk + 1), .int .i64 ac, .int .i64 dr])) (by kernel_rfl) (HX.out.below HQ.out) (fun hHeld => ?_)
    replace HO := Lib.hid (HO.out.below HQ.out)
    replace HR := Lib.hid (HR.out.below HQ.out)
    replace HL := Lib.hid (low_after HL.out HQ.out)
    clear HQ HX HA
    refine wpAnyH_take (i := 0) (oi := { dst := some _, op := _, type := _, pos := _, after := _, guard := _ }) (v := ?_) rfl (by kernel_rfl) (by kernel_rfl) (by kernel_rfl) (fun _ _ _ h => h) ?_ (by with_reducible assumption) ?_
    rotate_left 1
    focus (refine Or.inl ⟨by rfl, ?_⟩; intro wq hSw; refine exec_load_box ?_ 32 ?_ ?_ hSw _ Tryz.underlying32 sizeGate; rotate_left 1; rfl; rfl)
    try simp only [Act.put, List.setIfInBounds_toArray, List.set_cons_zero, List.set_cons_succ]
    refine wpAnyH_take (i := 1) (oi := { dst := some _, op := _, type := _, pos := _, after := _, guard := _ }) (v := ?_) rfl (by kernel_rfl) (by kernel_rfl) (by kernel_rfl) (fun _ _ _ h => h) ?_ (by with_reducible assumption) ?_
    rotate_left 1
    focus (refine Or.inl ⟨by rfl, ?_⟩; intro wq hSw; go_simp; try with_reducible rfl)
    try simp only [Act.put, List.setIfInBounds_toArray, List.set_cons_zero, List.set_cons_succ]
    refine wpAnyH_take (i := 2) (oi := { dst := some _, op := _, type := _, pos := _, after := _, guard := _ }) (v := ?_) rfl (by kernel_rfl) (by kernel_rfl) (by kernel_rfl) (fun _ _ _ h => h) ?_ (by with_reducible assumption) ?_
    rotate_left 1
    focus (refine Or.inl ⟨by rfl, ?_⟩; intro wq hSw; have q0 := hSw.cell 12 _ rfl; go_simp; try with_reducible rfl)
    try simp only [Act.put, List.setIfInBounds_toArray, List.set_cons_zero, List.set_cons_succ]
    refine wpAnyH_ready (rs := [3]) (by kernel_rfl) (by simp) ?_
    refine AllReadyH.cons rfl (fun KA hKA => ?_) AllReadyH.nil
    refine step_store_box rfl _ _ 32 rfl rfl [.int .i64 de, .int .i64 qu, .int .i64 wi, .int .i64 ti, .int .i64 qa, .int .i64 bu, .int .i64 le, .int .i64 pb, .int .i64 pc, .int .i64 pj, .int .i64 pt, .int .i64 nw, .int .i64 (la + 1), .slice ea2 (lE + 1) ec2, .slice ka1 lK kc1, .int .i64 tu, .slice fa1 lF fc1, .slice ra1 lR rc1, .int .i64 (tk + 1), .int .i64 ac, .int .i64 dr] rfl HR.out sizeGate rfl rfl ?_
    intro V hXb hgV hlV
    refine hKA.out _ _ (hHeld.grown hgV (by have := HK3.out; have := HB1.out; simp; omega)) (fun hHeld => ?_)
    clear hKA
    try simp only [Act.put, List.setIfInBounds_toArray, List.set_cons_zero, List.set_cons_succ]
    refine wpAnyH_take (i := 4) (oi := { dst := some _, op := _, type := _, pos := _, after := _, guard := _ }) (v := ?_) rfl (by kernel_rfl) (by kernel_rfl) (by kernel_rfl) (fun _ _ _ h => h) ?_ (by with_reducible assumption) ?_
    rotate_left 1
    focus (refine Or.inl ⟨by rfl, ?_⟩; intro wq hSw; go_simp; try with_reducible rfl)
    try simp only [Act.put, List.setIfInBounds_toArray, List.set_cons_zero, List.set_cons_succ]
    refine wpAnyH_take (i := 5) (oi := { dst := some _, op := _, type := _, pos := _, after := _, guard := _ }) (v := ?_) rfl (by kernel_rfl) (by kernel_rfl) (by kernel_rfl) (fun _ _ _ h => h) ?_ (by with_reducible assumption) ?_
    rotate_left 1
    focus (refine Or.inl ⟨by rfl, ?_⟩; intro wq hSw; go_simp; try with_reducible rfl)
    try simp only [Act.put, List.setIfInBounds_toArray, List.set_cons_zero, List.set_cons_succ]
    refine wpAnyH_done (by kernel_rfl) ?_ _
    go_wp2_with fail
    rw [HS0.out, sel_yes, sel_yes, sel_yes, sel_yes]
    have hln : (E ++ [(⟨la + 1, d, c, bd, nw, t, 0, nw, 0⟩ : Ev)]).length = lE + 1 := by rw [List.length_append, ← HlE.out]; rfl
    exact bodyPost_ret (v := .tuple #[.agg #[.int .i64 de, .int .i64 qu, .int .i64 wi, .int .i64 ti, .int .i64 qa, .int .i64 bu, .int .i64 le, .int .i64 pb, .int .i64 pc, .int .i64 pj, .int .i64 pt, .int .i64 nw, .int .i64 (la + 1), .slice ea2 (lE + 1) ec2, .slice ka1 lK kc1, .int .i64 tu, .slice fa1 lF fc1, .slice ra1 lR rc1, .int .i64 (tk + 1), .int .i64 ac, .int .i64 dr], .int .i64 (la + 1), .int .i64 0]) (results_box3 _ Tryz.results11 rfl rfl rfl hXb _ Tryz.underlying32 sizeGate) rfl ⟨⟨ea2, ec2, ka1, kc1, fa1, fc1, ra1, rc1, vs, by rw [hln, ← HlK.out, ← HlF.out, ← HlR.out, ← HZ.out], by rw [hln, ← HlK.out, ← HlF.out, ← HlR.out]; exact (HO.out.low hgV (by have := HB1.out; omega)).base (by have := HB1.out; omega)⟩, hlV w.heap.size w (by omega) HL.out⟩

end Go.Proofs.YtkndpkingmemoaaGreatDoor.Gat
namespace Go.Proofs.YtkndpkingmemoaaGreatDoor.Gat
open Go.RowKit
open Lnk (bOne bAfter IOwn IIs YOwn YIs below_keep below_drew' bcell low_after low_alloc grown_of_below ansL ansI)
set_option linter.unusedVariables false
set_option linter.unusedSimpArgs false

theorem sizeFrm : (Tryz.prog.info? 51).map (·.size) = some 6 := by kernel_rfl
theorem sizeLnk : (Tryz.prog.info? 82).map (·.size) = some 4 := by kernel_rfl
theorem ne_lg : (82 : TypeId) ≠ 32 := by decide
theorem ne_of_box {B : Nat} {w : World} {r : Rw} {k g : Nat} {T : TypeId} {l : List Value} (h : r.At B w) (hb : Box w k T l) (hne : r.E ≠ T) (hv : r.v.ownBlock = some g) : some k ≠ some g := by
  rcases h.offbox hb hne with h1 | h1
  · rw [hv] at h1; cases h1
  · rw [← hv]; exact Ne.symm h1
theorem iis_new1 (w : World) (x : Int) : IIs (w.alloc (.cells #[.int .i64 x] 3)).heap.size (w.alloc (.cells #[.int .i64 x] 3)) (some ⟨w.heap.size, 0, none⟩) 1 [x] := by
  refine ⟨rfl, fun k hk => ⟨w.heap.size, 0, rfl, by simp, ?_⟩⟩
  obtain rfl : k = 0 := by simpa using hk
  exact Box.cell (Box.new w [.int .i64 x] 3) 0 _ rfl
noncomputable def ansK (k : Lk) (e s : Int) : Lk := ⟨k.up, k.ep, k.sq, ansL k.up k.ep k.sq k.l e s⟩
noncomputable def ansId (k : Lk) (e s : Int) : Int := ansI k.up k.ep k.sq k.l e s
theorem getD_at {K : List Lk} {d : Int} {m : Nat} {k : Lk} (hm : m < K.length) (hd : d = (m : Int) + 1) (hk : K[m] = k) : K.getD (d - 1).toNat lk0 = k ∧ (d - 1).toNat = m := by
  have e : (d - 1).toNat = m := by omega
  rw [e, List.getD_eq_getElem?_getD, List.getElem?_eq_getElem hm, hk]
  exact ⟨rfl, rfl⟩

theorem ne_old {B : Nat} {w : World} {r : Rw} {k : Nat} (h : r.At B w) (hk : k = w.heap.size) : r.v.ownBlock = none ∨ r.v.ownBlock ≠ some k := by
  cases hv : r.v.ownBlock with
  | none => exact .inl rfl
  | some q => exact .inr (by have := (h.lt q hv).2; intro e; injection e; omega)
set_option maxRecDepth 100000 in
set_option maxHeartbeats 8000000 in
theorem specAnswerG_any (w : World) (de qu wi ti qa bu le pb pc pj pt nw la : Int) (ea : Option Addr) (en ec : Nat) (ka : Option Addr) (kn kc : Nat) (tu : Int) (fa : Option Addr) (fn fc : Nat) (ra : Option Addr) (rn rc : Nat) (tk ac dr : Int) (E : List Ev) (K : List Lk) (F R : List Int) (kd fd fe fs fi : Int) (fb : ByteArray) (h : GIs w.heap.size w ea en ka kn fa fn ra rn E K F R) (hs : Small en kn fn rn K) (hP : specP de qu wi ti qa bu le pb pc pj pt nw la en kn tu fn rn tk ac dr E K F R) (hd : 1 ≤ fd ∧ fd ≤ de) :
    Calls Tryz.prog 60 #[.agg #[.int .i64 de, .int .i64 qu, .int .i64 wi, .int .i64 ti, .int .i64 qa, .int .i64 bu, .int .i64 le, .int .i64 pb, .int .i64 pc, .int .i64 pj, .int .i64 pt, .int .i64 nw, .int .i64 la, .slice ea en ec, .slice ka kn kc, .int .i64 tu, .slice fa fn fc, .slice ra rn rc, .int .i64 tk, .int .i64 ac, .int .i64 dr], .agg #[.int .i64 kd, .int .i64 fd, .int .i64 fe, .int .i64 fs, .int .i64 fi, .string fb]] w fun e w' => GEnd2 w w' de qu wi ti qa bu le pb pc pj pt nw la tu tk (sel ((ansId (K.getD (fd - 1).toNat lk0) fe fs) == 0) ac (sel (kd == 4) ac (ac + 1))) dr (sel ((ansId (K.getD (fd - 1).toNat lk0) fe fs) == 0) E (sel (kd == 4) (back1 E (ansId (K.getD (fd - 1).toNat lk0) fe fs)) (goneE (ansId (K.getD (fd - 1).toNat lk0) fe fs) E))) (sel ((ansId (K.getD (fd - 1).toNat lk0) fe fs) == 0) K (K.set (fd - 1).toNat (ansK (K.getD (fd - 1).toNat lk0) fe fs))) F R (ansId (K.getD (fd - 1).toNat lk0) fe fs) (sel ((ansId (K.getD (fd - 1).toNat lk0) fe fs) == 0) 9 (sel (kd == 4) 1 0)) e := by
  obtain ⟨W0, hW0⟩ : ∃ W, W = ((w.alloc (.cells #[.int .i64 de, .int .i64 qu, .int .i64 wi, .int .i64 ti, .int .i64 qa, .int .i64 bu, .int .i64 le, .int .i64 pb, .int .i64 pc, .int .i64 pj, .int .i64 pt, .int .i64 nw, .int .i64 la, .slice ea en ec, .slice ka kn kc, .int .i64 tu, .slice fa fn fc, .slice ra rn rc, .int .i64 tk, .int .i64 ac, .int .i64 dr] 32)).alloc (.cells #[.int .i64 kd, .int .i64 fd, .int .i64 fe, .int .i64 fs, .int .i64 fi, .string fb] 51)).alloc (.cells #[.int .i64 0, .int .i64 0, .int .i64 0, .int .i64 0, .int .i64 0, .int .i64 0, .int .i64 0, .int .i64 0, .int .i64 0, .int .i64 0, .int .i64 0, .int .i64 0, .int .i64 0, .slice none 0 0, .slice none 0 0, .int .i64 0, .slice none 0 0, .slice none 0 0, .int .i64 0, .int .i64 0, .int .i64 0] 32) := ⟨_, rfl⟩
  have hb01 := bOne w (.cells #[.int .i64 de, .int .i64 qu, .int .i64 wi, .int .i64 ti, .int .i64 qa, .int .i64 bu, .int .i64 le, .int .i64 pb, .int .i64 pc, .int .i64 pj, .int .i64 pt, .int .i64 nw, .int .i64 la, .slice ea en ec, .slice ka kn kc, .int .i64 tu, .slice fa fn fc, .slice ra rn rc, .int .i64 tk, .int .i64 ac, .int .i64 dr] 32)
  have hb02 := bOne (w.alloc (.cells #[.int .i64 de, .int .i64 qu, .int .i64 wi, .int .i64 ti, .int .i64 qa, .int .i64 bu, .int .i64 le, .int .i64 pb, .int .i64 pc, .int .i64 pj, .int .i64 pt, .int .i64 nw, .int .i64 la, .slice ea en ec, .slice ka kn kc, .int .i64 tu, .slice fa fn fc, .slice ra rn rc, .int .i64 tk, .int .i64 ac, .int .i64 dr] 32)) (.cells #[.int .i64 kd, .int .i64 fd, .int .i64 fe, .int .i64 fs, .int .i64 fi, .string fb] 51)
  have hb03 := bOne ((w.alloc (.cells #[.int .i64 de, .int .i64 qu, .int .i64 wi, .int .i64 ti, .int .i64 qa, .int .i64 bu, .int .i64 le, .int .i64 pb, .int .i64 pc, .int .i64 pj, .int .i64 pt, .int .i64 nw, .int .i64 la, .slice ea en ec, .slice ka kn kc, .int .i64 tu, .slice fa fn fc, .slice ra rn rc, .int .i64 tk, .int .i64 ac, .int .i64 dr] 32)).alloc (.cells #[.int .i64 kd, .int .i64 fd, .int .i64 fe, .int .i64 fs, .int .i64 fi, .string fb] 51)) (.cells #[.int .i64 0, .int .i64 0, .int .i64 0, .int .i64 0, .int .i64 0, .int .i64 0, .int .i64 0, .int .i64 0, .int .i64 0, .int .i64 0, .int .i64 0, .int .i64 0, .int .i64 0, .slice none 0 0, .slice none 0 0, .int .i64 0, .slice none 0 0, .slice none 0 0, .int .i64 0, .int .i64 0, .int .i64 0] 32)
  have HA : Hid (Box W0 w.heap.size 32 [.int .i64 de, .int .i64 qu, .int .i64 wi, .int .i64 ti, .int .i64 qa, .int .i64 bu, .int .i64 le, .int .i64 pb, .int .i64 pc, .int .i64 pj, .int .i64 pt, .int .i64 nw, .int .i64 la, .slice ea en ec, .slice ka kn kc, .int .i64 tu, .slice fa fn fc, .slice ra rn rc, .int .i64 tk, .int .i64 ac, .int .i64 dr]) := Lib.hid (by rw [hW0]; exact ((Box.new w [.int .i64 de, .int .i64 qu, .int .i64 wi, .int .i64 ti, .int .i64 qa, .int .i64 bu, .int .i64 le, .int .i64 pb, .int .i64 pc, .int .i64 pj, .int .i64 pt, .int .i64 nw, .int .i64 la, .slice ea en ec, .slice ka kn kc, .int .i64 tu, .slice fa fn fc, .slice ra rn rc, .int .i64 tk, .int .i64 ac, .int .i64 dr] 32).below hb02).below hb03)
  have HF : Hid (Box W0 (w.heap.size + 1) 51 [.int .i64 kd, .int .i64 fd, .int .i64 fe, .int .i64 fs, .int .i64 fi, .string fb]) := Lib.hid (by
    rw [hW0]
    have := (Box.new (w.alloc (.cells #[.int .i64 de, .int .i64 qu, .int .i64 wi, .int .i64 ti, .int .i64 qa, .int .i64 bu, .int .i64 le, .int .i64 pb, .int .i64 pc, .int .i64 pj, .int .i64 pt, .int .i64 nw, .int .i64 la, .slice ea en ec, .slice ka kn kc, .int .i64 tu, .slice fa fn fc, .slice ra rn rc, .int .i64 tk, .int .i64 ac, .int .i64 dr] 32)) [.int .i64 kd, .int .i64 fd, .int .i64 fe, .int .i64 fs, .int .i64 fi, .string fb] 51).below hb03
    simpa using this)
  have HR : Hid (Box W0 (w.heap.size + 1 + 1) 32 [.int .i64 0, .int .i64 0, .int .i64 0, .int .i64 0, .int .i64 0, .int .i64 0, .int .i64 0, .int .i64 0, .int .i64 0, .int .i64 0, .int .i64 0, .int .i64 0, .int .i64 0, .slice none 0 0, .slice none 0 0, .int .i64 0, .slice none 0 0, .slice none 0 0, .int .i64 0, .int .i64 0, .int .i64 0]) := Lib.hid (by
    rw [hW0]
    have := Box.new ((w.alloc (.cells #[.int .i64 de, .int .i64 qu, .int .i64 wi, .int .i64 ti, .int .i64 qa, .int .i64 bu, .int .i64 le, .int .i64 pb, .int .i64 pc, .int .i64 pj, .int .i64 pt, .int .i64 nw, .int .i64 la, .slice ea en ec, .slice ka kn kc, .int .i64 tu, .slice fa fn fc, .slice ra rn rc, .int .i64 tk, .int .i64 ac, .int .i64 dr] 32)).alloc (.cells #[.int .i64 kd, .int .i64 fd, .int .i64 fe, .int .i64 fs, .int .i64 fi, .string fb] 51)) [.int .i64 0, .int .i64 0, .int .i64 0, .int .i64 0, .int .i64 0, .int .i64 0, .int .i64 0, .int .i64 0, .int .i64 0, .int .i64 0, .int .i64 0, .int .i64 0, .int .i64 0, .slice none 0 0, .slice none 0 0, .int .i64 0, .slice none 0 0, .slice none 0 0, .int .i64 0, .int .i64 0, .int .i64 0] 32
    simpa using this)
  have HL : Hid (Below w.heap.size w W0) := Lib.hid (by rw [hW0]; exact (hb01.trans (hb02.mono (by simp))).trans (hb03.mono (by simp; omega)))
  have HS0 := Lib.hid (show W0.heap.size = w.heap.size + 1 + 1 + 1 by rw [hW0]; simp)
  have HWE := Lib.hid hW0
  have HG := Lib.hid h
  have HSM := Lib.hid hs
  have HP := Lib.hid hP
  have HD := Lib.hid hd
  have HT0 := Lib.hid (show GIs W0.heap.size W0 ea en ka kn fa fn ra rn E K F R from h.here HL.out)
  clear hW0 hb01 hb02 hb03 h hs hP hd
  go_enter Tryz.func60, Tryz.ntmps60
  go_upto_region 1 with fail
  rw [← HWE.out]
  clear HWE
  obtain ⟨B1, hB1⟩ : ∃ B, B = W0.heap.size := ⟨_, rfl⟩
  have HB1 := Lib.hid (show w.heap.size + 1 + 1 < B1 by rw [hB1, HS0.out]; omega)
  go_wp2_with (first | (refine wpList_load_box rfl _ 32 rfl rfl HA.out _ Tryz.underlying32 sizeGate ?_) | fail)
  refine (specGCopy_any _ de qu wi ti qa bu le pb pc pj pt nw la ea en ec ka kn kc tu fa fn fc ra rn rc tk ac dr E K F R HT0.out HSM.out).mono ?_
  rintro e w1 ⟨⟨ea1, ec1, ka1, kc1, fa1, fc1, ra1, rc1, vs, rfl, ho⟩, hb⟩
  rw [← hB1] at ho
  obtain ⟨lE, hlE⟩ : ∃ l, l = E.length := ⟨_, rfl⟩
  obtain ⟨lK, hlK⟩ : ∃ l, l = K.length := ⟨_, rfl⟩
  obtain ⟨lF, hlF⟩ : ∃ l, l = F.length := ⟨_, rfl⟩
  obtain ⟨lR, hlR⟩ : ∃ l, l = R.length := ⟨_, rfl⟩
  rw [← hlE, ← hlK, ← hlF, ← hlR] at ho ⊢
  have HlE := Lib.hid hlE
  have HlK := Lib.hid hlK
  have HlF := Lib.hid hlF
  have HlR := Lib.hid hlR
  have HO := Lib.hid ho
  have HOO := Lib.hid ho
  have HBW := Lib.hid (show B1 ≤ w1.heap.size by rw [hB1]; exact hb.size)
  have HWB := Lib.hid HBW.out
  replace HA := Lib.hid (HA.out.below hb)
  replace HF := Lib.hid (HF.out.below hb)
  replace HR := Lib.hid (HR.out.below hb)
  replace HL := Lib.hid (low_after HL.out hb)
  clear hb ho hlE hlK hlF hlR hB1 HS0 HT0
  obtain ⟨k3, hk3⟩ : ∃ k, k = w1.heap.size := ⟨_, rfl⟩
  go_upto_region 2 with (first | (refine wpList_store_box rfl _ _ 32 rfl rfl [.int .i64 de, .int .i64 qu, .int .i64 wi, .int .i64 ti, .int .i64 qa, .int .i64 bu, .int .i64 le, .int .i64 pb, .int .i64 pc, .int .i64 pj, .int .i64 pt, .int .i64 nw, .int .i64 la, .slice ea1 lE ec1, .slice ka1 lK kc1, .int .i64 tu, .slice fa1 lF fc1, .slice ra1 lR rc1, .int .i64 tk, .int .i64 ac, .int .i64 dr] rfl (Box.new _ [.int .i64 0, .int .i64 0, .int .i64 0, .int .i64 0, .int .i64 0, .int .i64 0, .int .i64 0, .int .i64 0, .int .i64 0, .int .i64 0, .int .i64 0, .int .i64 0, .int .i64 0, .slice none 0 0, .slice none 0 0, .int .i64 0, .slice none 0 0, .slice none 0 0, .int .i64 0, .int .i64 0, .int .i64 0] 32) sizeGate rfl rfl ?_; intro V0 hXb hgV hlV; have HX := Lib.hid hXb; have HBV := Lib.hid (hlV w1.heap.size w1 (Nat.le_refl _) (bOne w1 _)); clear hXb hgV hlV) | fail)
  simp only [Act.put]
  rw [← hk3] at HX ⊢
  have HK3 := Lib.hid (show B1 ≤ k3 by rw [hk3]; exact HBW.out)
  have HW1S := Lib.hid (HBV.out.size)
  clear hk3
  replace HA := Lib.hid (HA.out.below HBV.out)
  replace HF := Lib.hid (HF.out.below HBV.out)
  replace HR := Lib.hid (HR.out.below HBV.out)
  replace HL := Lib.hid (low_after HL.out HBV.out)
  replace HO := Lib.hid (HO.out.below HBV.out)
  replace HBW := Lib.hid (Nat.le_trans HBW.out HBV.out.size)
  clear HBV
  obtain ⟨m, rfl⟩ : ∃ m : Nat, fd = (m : Int) + 1 := ⟨(fd - 1).toNat, by have := HD.out; omega⟩
  have hkd := HP.out.2.2.2.1.1
  have hkn : (m : Int) < (kn : Int) := by have := HD.out; omega
  have hlkn := HG.out.lk.hlen
  have hmK : m < K.length := by omega
  have hwm : IntKind.i64.wrap ((m : Int) + 1 - 1) = (m : Int) := by rw [show (m : Int) + 1 - 1 = (m : Int) by omega]; exact IntWalk.i64_in _ (by have := HP.out.1.2.1; have := HD.out; omega)
  obtain ⟨b, off, up, ep, sq, y, fa0, fl, fc0, rfl, hbl, hlj, hy, c4⟩ := (HG.out.lk.below HL.out).at m hmK
  have HLJ := Lib.hid hlj
  have HBL := Lib.hid hbl
  have HC4 := Lib.hid c4
  have HY := Lib.hid (hy.mono HL.out.size)
  have HYF := Lib.hid (show y.length ≤ 1048576 by have h1 := HSM.out.2.2.1 K[m] (List.getElem_mem _); rw [hlj] at h1; exact h1)
  have HMK := Lib.hid hmK
  have HKN := Lib.hid hlkn
  clear hlj hy hbl c4 hkd hlkn
  obtain ⟨L, hL⟩ : ∃ L, L = ansL up ep sq y fe fs := ⟨_, rfl⟩
  obtain ⟨lL, hlL⟩ : ∃ l, l = L.length := ⟨_, rfl⟩
  obtain ⟨AI, hAI⟩ : ∃ A, A = ansI up ep sq y fe fs := ⟨_, rfl⟩
  have HLL := Lib.hid hL
  have HlL := Lib.hid hlL
  have HAI := Lib.hid hAI
  clear hL hlL hAI
  obtain ⟨q, hq⟩ : ∃ q : Int, q = (m : Int) + 1 := ⟨_, rfl⟩
  rw [← hq] at hwm HF ⊢
  have HQQ := Lib.hid hq
  clear hq
  go_cut [8, 9] (fun s8 s9 wx => ∃ k8 a2 cap2, s8 = .pointer (some ⟨k8, 0, none⟩) ∧ s9 = .int .i64 AI ∧ Hid (Box wx k8 82 [.bool up, .int .i64 ep, .int .i64 sq, .slice a2 lL cap2]) ∧ Hid (Rws B1 wx (flR (.slice a2 lL cap2) L :: gRows (.slice ea1 lE ec1) (.slice ka1 lK kc1) (.slice fa1 lF fc1) (.slice ra1 lR rc1) vs E K F R)) ∧ Hid (Box wx w.heap.size 32 [.int .i64 de, .int .i64 qu, .int .i64 wi, .int .i64 ti, .int .i64 qa, .int .i64 bu, .int .i64 le, .int .i64 pb, .int .i64 pc, .int .i64 pj, .int .i64 pt, .int .i64 nw, .int .i64 la, .slice ea en ec, .slice (some ⟨b, off, none⟩) kn kc, .int .i64 tu, .slice fa fn fc, .slice ra rn rc, .int .i64 tk, .int .i64 ac, .int .i64 dr]) ∧ Hid (Box wx (w.heap.size + 1) 51 [.int .i64 kd, .int .i64 q, .int .i64 fe, .int .i64 fs, .int .i64 fi, .string fb]) ∧ Hid (Box wx (w.heap.size + 1 + 1) 32 [.int .i64 0, .int .i64 0, .int .i64 0, .int .i64 0, .int .i64 0, .int .i64 0, .int .i64 0, .int .i64 0, .int .i64 0, .int .i64 0, .int .i64 0, .int .i64 0, .int .i64 0, .slice none 0 0, .slice none 0 0, .int .i64 0, .slice none 0 0, .slice none 0 0, .int .i64 0, .int .i64 0, .int .i64 0]) ∧ Hid (Box wx k3 32 [.int .i64 de, .int .i64 qu, .int .i64 wi, .int .i64 ti, .int .i64 qa, .int .i64 bu, .int .i64 le, .int .i64 pb, .int .i64 pc, .int .i64 pj, .int .i64 pt, .int .i64 nw, .int .i64 la, .slice ea1 lE ec1, .slice ka1 lK kc1, .int .i64 tu, .slice fa1 lF fc1, .slice ra1 lR rc1, .int .i64 tk, .int .i64 ac, .int .i64 dr]) ∧ Hid (Below w.heap.size w wx) ∧ Hid (B1 ≤ wx.heap.size) ∧ Hid (w1.heap.size ≤ k8))
  case first =>
    have HQ := Lib.hid (below_drew' (Below.refl V0.heap.size V0))
    replace HA := Lib.hid (HA.out.below HQ.out)
    replace HF := Lib.hid (HF.out.below HQ.out)
    replace HR := Lib.hid (HR.out.below HQ.out)
    replace HX := Lib.hid (HX.out.below HQ.out)
    replace HO := Lib.hid (HO.out.below HQ.out)
    replace HL := Lib.hid (low_after HL.out HQ.out)
    replace HBW := Lib.hid (Nat.le_trans HBW.out HQ.out.size)
    replace HW1S := Lib.hid (Nat.le_trans HW1S.out HQ.out.size)
    replace HC4 := Lib.hid (c4_below HC4.out HQ.out)
    replace HY := Lib.hid (HY.out.here HQ.out)
    refine wp_region_held_drew (S := fun w' => (w'.cell? ⟨w.heap.size, 14, none⟩ = some (.slice (some ⟨b, off, none⟩) kn kc) ∧ w'.cell? ⟨b, off + m * 4, none⟩ = some (.bool up) ∧ w'.cell? ⟨b, off + m * 4 + 1, none⟩ = some (.int .i64 ep) ∧ w'.cell? ⟨b, off + m * 4 + 2, none⟩ = some (.int .i64 sq) ∧ w'.cell? ⟨b, off + m * 4 + 3, none⟩ = some (.slice fa0 fl fc0) ∧ w'.cell? ⟨(w.heap.size + 1), 1, none⟩ = some (.int .i64 q) ∧ w'.cell? ⟨(w.heap.size + 1), 2, none⟩ = some (.int .i64 fe) ∧ w'.cell? ⟨(w.heap.size + 1), 3, none⟩ = some (.int .i64 fs))) (by kernel_rfl) ⟨HA.out.cell 14 _ rfl, HC4.out.c0, HC4.out.c1, HC4.out.c2, HC4.out.c3, HF.out.cell 1 _ rfl, HF.out.cell 2 _ rfl, HF.out.cell 3 _ rfl⟩ (fun hHeld => ?_)
    obtain ⟨wd, hwd⟩ : ∃ x, x = V0.drew := ⟨_, rfl⟩
    rw [← hwd] at HA HF HR HX HO HL HBW HW1S HC4 HY hHeld ⊢
    clear HQ hwd
    refine wpAnyH_take (i := 0) (oi := { dst := some _, op := _, type := _, pos := _, after := _, guard := _ }) (v := ?_) rfl (by kernel_rfl) (by kernel_rfl) (by kernel_rfl) (fun _ _ _ h => h) ?_ (by with_reducible assumption) ?_
    rotate_left 1
    focus (refine Or.inl ⟨by rfl, ?_⟩; intro wq hSw; go_simp; try with_reducible rfl)
    try simp only [Act.put, List.setIfInBounds_toArray, List.set_cons_zero, List.set_cons_succ]
    refine wpAnyH_take (i := 1) (oi := { dst := some _, op := _, type := _, pos := _, after := _, guard := _ }) (v := ?_) rfl (by kernel_rfl) (by kernel_rfl) (by kernel_rfl) (fun _ _ _ h => h) ?_ (by with_reducible assumption) ?_
    rotate_left 1
    focus (refine Or.inl ⟨by rfl, ?_⟩; intro wq hSw; have q := hSw.1; go_simp; try with_reducible rfl)
    try simp only [Act.put, List.setIfInBounds_toArray, List.set_cons_zero, List.set_cons_succ]
    refine wpAnyH_take (i := 2) (oi := { dst := some _, op := _, type := _, pos := _, after := _, guard := _ }) (v := ?_) rfl (by kernel_rfl) (by kernel_rfl) (by kernel_rfl) (fun _ _ _ h => h) ?_ (by with_reducible assumption) ?_
    rotate_left 1
    focus (refine Or.inl ⟨by rfl, ?_⟩; intro wq hSw; go_simp; try with_reducible rfl)
    try simp only [Act.put, List.setIfInBounds_toArray, List.set_cons_zero, List.set_cons_succ]
    refine wpAnyH_take (i := 3) (oi := { dst := some _, op := _, type := _, pos := _, after := _, guard := _ }) (v := ?_) rfl (by kernel_rfl) (by kernel_rfl) (by kernel_rfl) (fun _ _ _ h => h) ?_ (by with_reducible assumption) ?_
    rotate_left 1
    focus (refine Or.inl ⟨by rfl, ?_⟩; intro wq hSw; have q := hSw.2.2.2.2.2.1; go_simp; try with_reducible rfl)
    try simp only [Act.put, List.setIfInBounds_toArray, List.set_cons_zero, List.set_cons_succ]
    refine wpAnyH_take (i := 4) (oi := { dst := some _, op := _, type := _, pos := _, after := _, guard := _ }) (v := ?_) rfl (by kernel_rfl) (by kernel_rfl) (by kernel_rfl) (fun _ _ _ h => h) ?_ (by with_reducible assumption) ?_
    rotate_left 1
    focus (refine Or.inl ⟨by rfl, ?_⟩; intro wq hSw; go_simp; try with_reducible rfl)
    try simp only [Act.put, List.setIfInBounds_toArray, List.set_cons_zero, List.set_cons_succ]
    refine wpAnyH_take (i := 5) (oi := { dst := some _, op := _, type := _, pos := _, after := _, guard := _ }) (v := ?_) rfl (by kernel_rfl) (by kernel_rfl) (by kernel_rfl) (fun _ _ _ h => h) ?_ (by with_reducible assumption) ?_
    rotate_left 1
    focus (refine Or.inl ⟨by rfl, ?_⟩; intro wq hSw; go_simp; try with_reducible rfl)
    try simp only [Act.put, List.setIfInBounds_toArray, List.set_cons_zero, List.set_cons_succ]
    refine wpAnyH_take (i := 6) (oi := { dst := some _, op := _, type := _, pos := _, after := _, guard := _ }) (v := ?_) rfl (by kernel_rfl) (by kernel_rfl) (by kernel_rfl) (fun _ _ _ h => h) ?_ (by with_reducible assumption) ?_
    rotate_left 1
    focus (refine Or.inl ⟨by rfl, ?_⟩; intro wq hSw; have q1 := hSw.2.1; have q2 := hSw.2.2.1; have q3 := hSw.2.2.2.1; have q4 := hSw.2.2.2.2.1; go_simp; try with_reducible rfl)
    try simp only [Act.put, List.setIfInBounds_toArray, List.set_cons_zero, List.set_cons_succ]
    refine wpAnyH_take (i := 7) (oi := { dst := some _, op := _, type := _, pos := _, after := _, guard := _ }) (v := ?_) rfl (by kernel_rfl) (by kernel_rfl) (by kernel_rfl) (fun _ _ _ h => h) ?_ (by with_reducible assumption) ?_
    rotate_left 1
    focus (refine Or.inl ⟨by rfl, ?_⟩; intro wq hSw; go_simp; try with_reducible rfl)
    try simp only [Act.put, List.setIfInBounds_toArray, List.set_cons_zero, List.set_cons_succ]
    refine wpAnyH_take (i := 8) (oi := { dst := some _, op := _, type := _, pos := _, after := _, guard := _ }) (v := ?_) rfl (by kernel_rfl) (by kernel_rfl) (by kernel_rfl) (fun _ _ _ h => h) ?_ (by with_reducible assumption) ?_
    rotate_left 1
    focus (refine Or.inl ⟨by rfl, ?_⟩; intro wq hSw; have q := hSw.2.2.2.2.2.2.1; go_simp; try with_reducible rfl)
    try simp only [Act.put, List.setIfInBounds_toArray, List.set_cons_zero, List.set_cons_succ]
    refine wpAnyH_take (i := 9) (oi := { dst := some _, op := _, type := _, pos := _, after := _, guard := _ }) (v := ?_) rfl (by kernel_rfl) (by kernel_rfl) (by kernel_rfl) (fun _ _ _ h => h) ?_ (by with_reducible assumption) ?_
    rotate_left 1
    focus (refine Or.inl ⟨by rfl, ?_⟩; intro wq hSw; go_simp; try with_reducible rfl)
    try simp only [Act.put, List.setIfInBounds_toArray, List.set_cons_zero, List.set_cons_succ]
    refine wpAnyH_take (i := 10) (oi := { dst := some _, op := _, type := _, pos := _, after := _, guard := _ }) (v := ?_) rfl (by kernel_rfl) (by kernel_rfl) (by kernel_rfl) (fun _ _ _ h => h) ?_ (by with_reducible assumption) ?_
    rotate_left 1
    focus (refine Or.inl ⟨by rfl, ?_⟩; intro wq hSw; have q := hSw.2.2.2.2.2.2.2; go_simp; try with_reducible rfl)
    try simp only [Act.put, List.setIfInBounds_toArray, List.set_cons_zero, List.set_cons_succ]
    refine wpAnyH_ready (rs := [11, 15]) (by kernel_rfl) (by simp) ?_
    refine AllReadyH.cons rfl (fun KC hKC => ?_) ?_
    · go_simp
      refine (Lnk.specAnswerC_any _ fa0 fl fc0 up ep sq y fe fs HY.out (by have := HY.out.hlen; have := HYF.out; omega)).mono ?_
      rintro e v1 ⟨⟨a2, cap2, rfl, hoy⟩, hb⟩
      rw [← HLL.out, ← HlL.out] at hoy ⊢
      rw [← HAI.out]
      have HRW := Lib.hid (HO.out.rows.new (r := flR (.slice a2 lL cap2) L) hb hoy HBW.out)
      replace HA := Lib.hid (HA.out.below hb)
      replace HF := Lib.hid (HF.out.below hb)
      replace HR := Lib.hid (HR.out.below hb)
      replace HX := Lib.hid (HX.out.below hb)
      replace HO := Lib.hid (HO.out.below hb)
      replace HL := Lib.hid (low_after HL.out hb)
      replace HBW := Lib.hid (Nat.le_trans HBW.out hb.size)
      replace HW1S := Lib.hid (Nat.le_trans HW1S.out hb.size)
      replace HC4 := Lib.hid (c4_below HC4.out hb)
      replace HY := Lib.hid (HY.out.here hb)
      clear hb hoy hHeld
      dsimp only
      refine hKC.out _ _ (⟨HA.out.cell 14 _ rfl, HC4.out.c0, HC4.out.c1, HC4.out.c2, HC4.out.c3, HF.out.cell 1 _ rfl, HF.out.cell 2 _ rfl, HF.out.cell 3 _ rfl⟩) (fun hHeld => ?_)
      clear hKC
      try simp only [Act.put, List.setIfInBounds_toArray, List.set_cons_zero, List.set_cons_succ]
      refine wpAnyH_take (i := 12) (oi := { dst := some _, op := _, type := _, pos := _, after := _, guard := _ }) (v := ?_) rfl (by kernel_rfl) (by kernel_rfl) (by kernel_rfl) (fun _ _ _ h => h) ?_ (by with_reducible assumption) ?_
      rotate_left 1
      focus (refine Or.inl ⟨by rfl, ?_⟩; intro wq hSw; go_simp; try with_reducible rfl)
      try simp only [Act.put, List.setIfInBounds_toArray, List.set_cons_zero, List.set_cons_succ]
      refine wpAnyH_take (i := 13) (oi := { dst := some _, op := _, type := _, pos := _, after := _, guard := _ }) (v := ?_) rfl (by kernel_rfl) (by kernel_rfl) (by kernel_rfl) (fun _ _ _ h => h) ?_ (by with_reducible assumption) ?_
      rotate_left 1
      focus (refine Or.inl ⟨by rfl, ?_⟩; intro wq hSw; go_simp; try with_reducible rfl)
      try simp only [Act.put, List.setIfInBounds_toArray, List.set_cons_zero, List.set_cons_succ]
      refine wpAnyH_take (i := 14) (oi := { dst := some _, op := _, type := _, pos := _, after := _, guard := _ }) (v := ?_) rfl (by kernel_rfl) (by kernel_rfl) (by kernel_rfl) (fun _ _ _ h => h) ?_ (by with_reducible assumption) ?_
      rotate_left 1
      focus (refine Or.inl ⟨by rfl, ?_⟩; intro wq hSw; go_simp; try with_reducible rfl)
      try simp only [Act.put, List.setIfInBounds_toArray, List.set_cons_zero, List.set_cons_succ]
      refine wpAnyH_ready (rs := [15]) (by kernel_rfl) (by simp) ?_
      refine AllReadyH.cons rfl (fun KB hKB => ?_) AllReadyH.nil
      obtain ⟨k8, hk8⟩ : ∃ k, k = v1.heap.size := ⟨_, rfl⟩
      have HK8 := Lib.hid (show w1.heap.size ≤ k8 by rw [hk8]; exact HW1S.out)
      have HX3 := Lib.hid (show k3 < k8 by rw [hk8]; exact HX.out.lt)
      have hb := bOne v1 (.cells #[.bool false, .int .i64 0, .int .i64 0, .slice none 0 0] 82)
      have HB8 := Lib.hid (show Box (v1.alloc (.cells #[.bool false, .int .i64 0, .int .i64 0, .slice none 0 0] 82)) k8 82 [.bool false, .int .i64 0, .int .i64 0, .slice none 0 0] by rw [hk8]; exact Box.new v1 [.bool false, .int .i64 0, .int .i64 0, .slice none 0 0] 82)
      have HNE8 := Lib.hid (fun r (hr : r ∈ flR (.slice a2 lL cap2) L :: gRows (.slice ea1 lE ec1) (.slice ka1 lK kc1) (.slice fa1 lF fc1) (.slice ra1 lR rc1) vs E K F R) => ne_old (HRW.out.at_ r hr) hk8)
      go_simp
      rw [← hk8]
      replace HRW := Lib.hid (HRW.out.below hb)
      replace HA := Lib.hid (HA.out.below hb)
      replace HF := Lib.hid (HF.out.below hb)
      replace HR := Lib.hid (HR.out.below hb)
      replace HX := Lib.hid (HX.out.below hb)
      replace HO := Lib.hid (HO.out.below hb)
      replace HL := Lib.hid (low_after HL.out hb)
      replace HBW := Lib.hid (Nat.le_trans HBW.out hb.size)
      replace HW1S := Lib.hid (Nat.le_trans HW1S.out hb.size)
      replace HC4 := Lib.hid (c4_below HC4.out hb)
      replace HY := Lib.hid (HY.out.here hb)
      clear hb hk8 hHeld
      refine hKB.out _ _ (⟨HA.out.cell 14 _ rfl, HC4.out.c0, HC4.out.c1, HC4.out.c2, HC4.out.c3, HF.out.cell 1 _ rfl, HF.out.cell 2 _ rfl, HF.out.cell 3 _ rfl⟩) (fun hHeld => ?_)
      clear hKB
      try simp only [Act.put, List.setIfInBounds_toArray, List.set_cons_zero, List.set_cons_succ]
      refine wpAnyH_ready (rs := [16]) (by kernel_rfl) (by simp) ?_
      refine AllReadyH.cons rfl (fun KS hKS => ?_) AllReadyH.nil
      refine step_store_box rfl _ _ 82 rfl rfl [.bool up, .int .i64 ep, .int .i64 sq, .slice a2 lL cap2] rfl HB8.out sizeLnk rfl rfl ?_
      intro v3 hXb hgV hlV
      have hk8 := HK8.out
      replace HA := Lib.hid (HA.out.grown hgV (by have := HB1.out; have := HWB.out; simp; omega))
      replace HF := Lib.hid (HF.out.grown hgV (by have := HB1.out; have := HWB.out; simp; omega))
      replace HR := Lib.hid (HR.out.grown hgV (by have := HB1.out; have := HWB.out; simp; omega))
      replace HX := Lib.hid (HX.out.grown hgV (by have := HX3.out; simp; omega))
      replace HL := Lib.hid (hlV w.heap.size w (by have := HB1.out; have := HWB.out; omega) HL.out)
      replace HC4 := Lib.hid (c4_grown HC4.out hgV (by have := HB1.out; have := HWB.out; have := HBL.out; simp; omega))
      replace HRW := Lib.hid (HRW.out.kept hgV (fun r hr => HNE8.out r hr))
      replace HBW := Lib.hid (Nat.le_trans HBW.out hgV.size)
      have HBX := Lib.hid hXb
      clear hXb hgV hlV hHeld hk8
      refine hKS.out _ _ (⟨HA.out.cell 14 _ rfl, HC4.out.c0, HC4.out.c1, HC4.out.c2, HC4.out.c3, HF.out.cell 1 _ rfl, HF.out.cell 2 _ rfl, HF.out.cell 3 _ rfl⟩) (fun hHeld => ?_)
      clear hKS
      try simp only [Act.put, List.setIfInBounds_toArray, List.set_cons_zero, List.set_cons_succ]
      refine wpAnyH_take (i := 17) (oi := { dst := some _, op := _, type := _, pos := _, after := _, guard := _ }) (v := ?_) rfl (by kernel_rfl) (by kernel_rfl) (by kernel_rfl) (fun _ _ _ h => h) ?_ (by with_reducible assumption) ?_
      rotate_left 1
      focus (refine Or.inl ⟨by rfl, ?_⟩; intro wq hSw; go_simp; try with_reducible rfl)
      try simp only [Act.put, List.setIfInBounds_toArray, List.set_cons_zero, List.set_cons_succ]
      refine wpAnyH_done (by kernel_rfl) ?_ _
      go_wp2_with fail
      go_meet
      exact ⟨k8, a2, cap2, rfl, rfl, HBX, HRW, HA, HF, HR, HX, HL, HBW, HK8⟩
    · refine AllReadyH.cons rfl (fun KB hKB => ?_) AllReadyH.nil
      obtain ⟨k8, hk8⟩ : ∃ k, k = wd.heap.size := ⟨_, rfl⟩
      have HK8 := Lib.hid (show w1.heap.size ≤ k8 by rw [hk8]; exact HW1S.out)
      have HX3 := Lib.hid (show k3 < k8 by rw [hk8]; exact HX.out.lt)
      have hb := bOne wd (.cells #[.bool false, .int .i64 0, .int .i64 0, .slice none 0 0] 82)
      have HB8 := Lib.hid (show Box (wd.alloc (.cells #[.bool false, .int .i64 0, .int .i64 0, .slice none 0 0] 82)) k8 82 [.bool false, .int .i64 0, .int .i64 0, .slice none 0 0] by rw [hk8]; exact Box.new wd [.bool false, .int .i64 0, .int .i64 0, .slice none 0 0] 82)
      have HNEg := Lib.hid (fun r (hr : r ∈ gRows (.slice ea1 lE ec1) (.slice ka1 lK kc1) (.slice fa1 lF fc1) (.slice ra1 lR rc1) vs E K F R) => ne_old (HO.out.rows.at_ r hr) hk8)
      have HK8s := Lib.hid (show k8 < wd.heap.size + 1 by omega)
      go_simp
      rw [← hk8]
      replace HA := Lib.hid (HA.out.below hb)
      replace HF := Lib.hid (HF.out.below hb)
      replace HR := Lib.hid (HR.out.below hb)
      replace HX := Lib.hid (HX.out.below hb)
      replace HO := Lib.hid (HO.out.below hb)
      replace HL := Lib.hid (low_after HL.out hb)
      replace HBW := Lib.hid (Nat.le_trans HBW.out hb.size)
      replace HW1S := Lib.hid (Nat.le_trans HW1S.out hb.size)
      replace HC4 := Lib.hid (c4_below HC4.out hb)
      replace HY := Lib.hid (HY.out.here hb)
      clear hb hk8 hHeld
      refine hKB.out _ _ (⟨HA.out.cell 14 _ rfl, HC4.out.c0, HC4.out.c1, HC4.out.c2, HC4.out.c3, HF.out.cell 1 _ rfl, HF.out.cell 2 _ rfl, HF.out.cell 3 _ rfl⟩) (fun hHeld => ?_)
      clear hKB
      try simp only [Act.put, List.setIfInBounds_toArray, List.set_cons_zero, List.set_cons_succ]
      refine wpAnyH_ready (rs := [11]) (by kernel_rfl) (by simp) ?_
      refine AllReadyH.cons rfl (fun KC hKC => ?_) AllReadyH.nil
      go_simp
      refine (Lnk.specAnswerC_any _ fa0 fl fc0 up ep sq y fe fs HY.out (by have := HY.out.hlen; have := HYF.out; omega)).mono ?_
      rintro e v1 ⟨⟨a2, cap2, rfl, hoy⟩, hb⟩
      rw [← HLL.out, ← HlL.out] at hoy ⊢
      rw [← HAI.out]
      have HNE8 := Lib.hid (fun r (hr : r ∈ flR (.slice a2 lL cap2) L :: gRows (.slice ea1 lE ec1) (.slice ka1 lK kc1) (.slice fa1 lF fc1) (.slice ra1 lR rc1) vs E K F R) => show r.v.ownBlock = none ∨ r.v.ownBlock ≠ some k8 from by
        rcases List.mem_cons.1 hr with rfl | hr
        · cases hv : (Value.slice a2 lL cap2).ownBlock with
          | none => exact .inl hv
          | some q => exact .inr (fun e => by have h1 := (World.ownsRow.lt hoy q hv).1; rw [show (flR (Value.slice a2 lL cap2) L).v = Value.slice a2 lL cap2 from rfl, hv] at e; injection e; simp at h1; have := HK8s.out; omega)
        · exact HNEg.out r hr)
      have HRW := Lib.hid (HO.out.rows.new (r := flR (.slice a2 lL cap2) L) hb hoy HBW.out)
      replace HA := Lib.hid (HA.out.below hb)
      replace HF := Lib.hid (HF.out.below hb)
      replace HR := Lib.hid (HR.out.below hb)
      replace HX := Lib.hid (HX.out.below hb)
      replace HO := Lib.hid (HO.out.below hb)
      replace HB8 := Lib.hid (HB8.out.below hb)
      replace HL := Lib.hid (low_after HL.out hb)
      replace HBW := Lib.hid (Nat.le_trans HBW.out hb.size)
      replace HW1S := Lib.hid (Nat.le_trans HW1S.out hb.size)
      replace HC4 := Lib.hid (c4_below HC4.out hb)
      replace HY := Lib.hid (HY.out.here hb)
      clear hb hoy hHeld
      dsimp only
      refine hKC.out _ _ (⟨HA.out.cell 14 _ rfl, HC4.out.c0, HC4.out.c1, HC4.out.c2, HC4.out.c3, HF.out.cell 1 _ rfl, HF.out.cell 2 _ rfl, HF.out.cell 3 _ rfl⟩) (fun hHeld => ?_)
      clear hKC
      try simp only [Act.put, List.setIfInBounds_toArray, List.set_cons_zero, List.set_cons_succ]
      refine wpAnyH_take (i := 12) (oi := { dst := some _, op := _, type := _, pos := _, after := _, guard := _ }) (v := ?_) rfl (by kernel_rfl) (by kernel_rfl) (by kernel_rfl) (fun _ _ _ h => h) ?_ (by with_reducible assumption) ?_
      rotate_left 1
      focus (refine Or.inl ⟨by rfl, ?_⟩; intro wq hSw; go_simp; try with_reducible rfl)
      try simp only [Act.put, List.setIfInBounds_toArray, List.set_cons_zero, List.set_cons_succ]
      refine wpAnyH_take (i := 13) (oi := { dst := some _, op := _, type := _, pos := _, after := _, guard := _ }) (v := ?_) rfl (by kernel_rfl) (by kernel_rfl) (by kernel_rfl) (fun _ _ _ h => h) ?_ (by with_reducible assumption) ?_
      rotate_left 1
      focus (refine Or.inl ⟨by rfl, ?_⟩; intro wq hSw; go_simp; try with_reducible rfl)
      try simp only [Act.put, List.setIfInBounds_toArray, List.set_cons_zero, List.set_cons_succ]
      refine wpAnyH_take (i := 14) (oi := { dst := some _, op := _, type := _, pos := _, after := _, guard := _ }) (v := ?_) rfl (by kernel_rfl) (by kernel_rfl) (by kernel_rfl) (fun _ _ _ h => h) ?_ (by with_reducible assumption) ?_
      rotate_left 1
      focus (refine Or.inl ⟨by rfl, ?_⟩; intro wq hSw; go_simp; try with_reducible rfl)
      try simp only [Act.put, List.setIfInBounds_toArray, List.set_cons_zero, List.set_cons_succ]
      refine wpAnyH_ready (rs := [16]) (by kernel_rfl) (by simp) ?_
      refine AllReadyH.cons rfl (fun KS hKS => ?_) AllReadyH.nil
      refine step_store_box rfl _ _ 82 rfl rfl [.bool up, .int .i64 ep, .int .i64 sq, .slice a2 lL cap2] rfl HB8.out sizeLnk rfl rfl ?_
      intro v3 hXb hgV hlV
      have hk8 := HK8.out
      replace HA := Lib.hid (HA.out.grown hgV (by have := HB1.out; have := HWB.out; simp; omega))
      replace HF := Lib.hid (HF.out.grown hgV (by have := HB1.out; have := HWB.out; simp; omega))
      replace HR := Lib.hid (HR.out.grown hgV (by have := HB1.out; have := HWB.out; simp; omega))
      replace HX := Lib.hid (HX.out.grown hgV (by have := HX3.out; simp; omega))
      replace HL := Lib.hid (hlV w.heap.size w (by have := HB1.out; have := HWB.out; omega) HL.out)
      replace HC4 := Lib.hid (c4_grown HC4.out hgV (by have := HB1.out; have := HWB.out; have := HBL.out; simp; omega))
      replace HRW := Lib.hid (HRW.out.kept hgV (fun r hr => HNE8.out r hr))
      replace HBW := Lib.hid (Nat.le_trans HBW.out hgV.size)
      have HBX := Lib.hid hXb
      clear hXb hgV hlV hHeld hk8
      refine hKS.out _ _ (⟨HA.out.cell 14 _ rfl, HC4.out.c0, HC4.out.c1, HC4.out.c2, HC4.out.c3, HF.out.cell 1 _ rfl, HF.out.cell 2 _ rfl, HF.out.cell 3 _ rfl⟩) (fun hHeld => ?_)
      clear hKS
      try simp only [Act.put, List.setIfInBounds_toArray, List.set_cons_zero, List.set_cons_succ]
      refine wpAnyH_take (i := 17) (oi := { dst := some _, op := _, type := _, pos := _, after := _, guard := _ }) (v := ?_) rfl (by kernel_rfl) (by kernel_rfl) (by kernel_rfl) (fun _ _ _ h => h) ?_ (by with_reducible assumption) ?_
      rotate_left 1
      focus (refine Or.inl ⟨by rfl, ?_⟩; intro wq hSw; go_simp; try with_reducible rfl)
      try simp only [Act.put, List.setIfInBounds_toArray, List.set_cons_zero, List.set_cons_succ]
      refine wpAnyH_done (by kernel_rfl) ?_ _
      go_wp2_with fail
      go_meet
      exact ⟨k8, a2, cap2, rfl, rfl, HBX, HRW, HA, HF, HR, HX, HL, HBW, HK8⟩
  case rest =>
    obtain ⟨k8, a2, cap2, rfl, rfl, HB8, HRW, HA, HF, HR, HX, HL, HBW, HK8⟩ := hcut
    rename_i wc
    have HO := Lib.hid (show GOwn B1 wc (.slice ea1 lE ec1) (.slice ka1 lK kc1) (.slice fa1 lF fc1) (.slice ra1 lR rc1) vs E K F R from ⟨HRW.out.tail, HOO.out.len, HOO.out.body⟩)
    have HKD := Lib.hid (show (K.getD ((m : Int) + 1 - 1).toNat lk0) = ⟨up, ep, sq, y⟩ from (getD_at HMK.out rfl HLJ.out).1)
    have HKM := Lib.hid (show ((m : Int) + 1 - 1).toNat = m from (getD_at HMK.out rfl HLJ.out).2)
    have HAA := Lib.hid (show ansId (K.getD ((m : Int) + 1 - 1).toNat lk0) fe fs = AI by rw [HKD.out]; exact HAI.out.symm)
    cases h0 : (AI == 0) with
    | true =>
      have hz0 : AI = 0 := by simpa using h0
      clear hwm HC4 HY
      subst hz0
      go_wp2_with (first | (refine wpList_load_box rfl _ 32 rfl rfl HX.out _ Tryz.underlying32 sizeGate ?_) | (refine wpList_store_box rfl _ _ 32 rfl rfl [.int .i64 de, .int .i64 qu, .int .i64 wi, .int .i64 ti, .int .i64 qa, .int .i64 bu, .int .i64 le, .int .i64 pb, .int .i64 pc, .int .i64 pj, .int .i64 pt, .int .i64 nw, .int .i64 la, .slice ea1 lE ec1, .slice ka1 lK kc1, .int .i64 tu, .slice fa1 lF fc1, .slice ra1 lR rc1, .int .i64 tk, .int .i64 ac, .int .i64 dr] rfl HR.out sizeGate rfl rfl ?_; intro V hXb hgV hlV) | fail)
      rw [HAA.out, h0, sel_yes, sel_yes, sel_yes, sel_yes]
      exact bodyPost_ret (v := .tuple #[.agg #[.int .i64 de, .int .i64 qu, .int .i64 wi, .int .i64 ti, .int .i64 qa, .int .i64 bu, .int .i64 le, .int .i64 pb, .int .i64 pc, .int .i64 pj, .int .i64 pt, .int .i64 nw, .int .i64 la, .slice ea1 lE ec1, .slice ka1 lK kc1, .int .i64 tu, .slice fa1 lF fc1, .slice ra1 lR rc1, .int .i64 tk, .int .i64 ac, .int .i64 dr], .int .i64 0, .int .i64 9]) (results_box3 _ Tryz.results60 rfl rfl rfl hXb _ Tryz.underlying32 sizeGate) rfl ⟨⟨ea1, ec1, ka1, kc1, fa1, fc1, ra1, rc1, vs, by rw [← HlE.out, ← HlK.out, ← HlF.out, ← HlR.out], by rw [← HlE.out, ← HlK.out, ← HlF.out, ← HlR.out]; exact (HO.out.low hgV (by have := HB1.out; omega)).base (by have := HB1.out; omega)⟩, hlV w.heap.size w (by omega) HL.out⟩
    | false =>
      obtain ⟨gk, hgk⟩ := own_some HOO.out.lkO (by rw [rawOf_len HOO.out.len]; have := HMK.out; omega)
      obtain ⟨rfl, hgw⟩ := hgk
      have hmr : m < (rawOf K vs).length := by rw [rawOf_len HOO.out.len]; exact HMK.out
      obtain ⟨⟨z0, z1, z2, z3, hzz, e0, e1, e2, e3⟩, f0, f1, f2, f3⟩ := lown_at HO.out.lkO m hmr
      have hst := lown_set HO.out.lkO m hmr up ep sq (.slice a2 lL cap2)
      have HST := Lib.hid hst
      have HMR := Lib.hid hmr
      have o14 := HX.out.cell 14 _ rfl
      have b0 := HB8.out.cell 0 _ rfl
      have b1 := HB8.out.cell 1 _ rfl
      have b2 := HB8.out.cell 2 _ rfl
      have b3 := HB8.out.cell 3 _ rfl
      have x1 := HF.out.cell 1 _ rfl
      have hmlk : (m : Int) < (lK : Int) := by have h1 := HMK.out; have h2 := HlK.out; omega
      have HGW := Lib.hid hgw
      have HGB1 := Lib.hid (show B1 ≤ gk from (World.ownsRow.lt HOO.out.lkO gk rfl).1)
      clear hst hmr hzz hgw HC4 HY
      go_upto_region 6 with fail
      clear e0 e1 e2 e3 f0 f1 f2 f3 o14 b0 b1 b2 b3 x1 z0 z1 z2 z3
      obtain ⟨w4, hw4⟩ : ∃ V, V = ((((wc.setCell ⟨gk, m * 4, none⟩ (.bool up)).setCell ⟨gk, m * 4 + 1, none⟩ (.int .i64 ep)).setCell ⟨gk, m * 4 + 2, none⟩ (.int .i64 sq)).setCell ⟨gk, m * 4 + 3, none⟩ (.slice a2 lL cap2)) := ⟨_, rfl⟩
      rw [← hw4] at HST ⊢
      clear hw4
      have hgx := HST.out.2
      have HO4 := Lib.hid (GOwn.setLk (k := ⟨up, ep, sq, L⟩) m HO.out HRW.out hgx HST.out.1)
      replace HA := Lib.hid (HA.out.grown hgx (by have := HGB1.out; have := HB1.out; simp; omega))
      replace HF := Lib.hid (HF.out.grown hgx (by have := HGB1.out; have := HB1.out; simp; omega))
      replace HR := Lib.hid (HR.out.grown hgx (by have := HGB1.out; have := HB1.out; simp; omega))
      replace HX := Lib.hid (HX.out.grown hgx (ne_of_box (lrR_at.2 HO.out.lkO) HX.out ne_lg rfl))
      replace HL := Lib.hid (HL.out.grown hgx HL.out.size (fun z hz => by cases hz; have := HGB1.out; have := HB1.out; omega))
      replace HBW := Lib.hid (Nat.le_trans HBW.out hgx.size)
      clear hgx HST HO HRW HB8
      obtain ⟨K', hK'⟩ : ∃ K', K' = K.set m ⟨up, ep, sq, L⟩ := ⟨_, rfl⟩
      obtain ⟨vs', hvs'⟩ : ∃ v, v = vs.set m (.slice a2 lL cap2) := ⟨_, rfl⟩
      rw [← hK', ← hvs'] at HO4
      have HlK2 := Lib.hid (show lK = K'.length by rw [hK', List.length_set]; exact HlK.out)
      have HKE := Lib.hid (show K.set ((m : Int) + 1 - 1).toNat (ansK (K.getD ((m : Int) + 1 - 1).toNat lk0) fe fs) = K' by rw [HKD.out, HKM.out, hK', HLL.out]; rfl)
      clear hK' hvs' hwm hmlk
      have x0 := HF.out.cell 0 _ rfl
      have HEN := Lib.hid (show E.length ≤ 60 by have := HP.out.2.2.2.2.1.1; have := HG.out.ev.row.hlen; omega)
      cases hk4 : (kd == 4) with
      | true =>
        have hb := bOne w4 (.cells #[.int .i64 AI] 3)
        have HBB := Lib.hid hb
        have HIR := Lib.hid (show IIs (w4.alloc (.cells #[.int .i64 AI] 3)).heap.size (w4.alloc (.cells #[.int .i64 AI] 3)) (some ⟨w4.heap.size, 0, none⟩) 1 [AI] from iis_new1 w4 AI)
        have HNE := Lib.hid (show ∀ b off, (some ⟨w4.heap.size, 0, none⟩ : Option Addr) = some ⟨b, off, none⟩ → some b ≠ (Value.slice ea1 E.length ec1).ownBlock from fun b off e e2 => by
          injection e with e
          injection e with e
          rw [← HlE.out] at e2
          have := (World.ownsRow.lt HO4.out.evO b e2.symm).2
          omega)
        have HO5 := Lib.hid (show GOwn B1 (w4.alloc (.cells #[.int .i64 AI] 3)) (.slice ea1 E.length ec1) (.slice (some ⟨gk, 0, none⟩) K'.length kc1) (.slice fa1 F.length fc1) (.slice ra1 R.length rc1) vs' E K' F R by rw [← HlE.out, ← HlK2.out, ← HlF.out, ← HlR.out]; exact HO4.out.below hb)
        clear hb
        go_wp2_with (first | (refine wpList_load_box rfl _ 32 rfl rfl HX.out _ Tryz.underlying32 sizeGate ?_) | fail)
        rw [HlE.out, HlK2.out, HlF.out, HlR.out]
        refine (back_any B1 _ de qu wi ti qa bu le pb pc pj pt nw la ea1 ec1 (some ⟨gk, 0, none⟩) kc1 tu fa1 fc1 ra1 rc1 tk ac dr vs' E K' F R (some ⟨w4.heap.size, 0, none⟩) 1 1 [AI] HO5.out HIR.out HNE.out (by have := HEN.out; omega) (by omega)).mono ?_
        rintro e w5 ⟨rfl, ho5, hg5⟩
        have hne5 : ∀ z, z < B1 → some z ≠ (Value.slice ea1 E.length ec1).ownBlock := fun z hz e => by have := (World.ownsRow.lt HO5.out.evO z e.symm).1; omega
        replace HR := Lib.hid ((HR.out.below HBB.out).grown hg5 (hne5 _ (by have := HB1.out; omega)))
        replace HL := Lib.hid ((low_after HL.out HBB.out).grown hg5 (low_after HL.out HBB.out).size (fun z hz => by have := (World.ownsRow.lt HO5.out.evO z hz).1; have := HB1.out; omega))
        clear hg5 hne5 x0
        go_wp2_with (first | (refine wpList_store_box rfl _ _ 32 rfl rfl [.int .i64 de, .int .i64 qu, .int .i64 wi, .int .i64 ti, .int .i64 qa, .int .i64 bu, .int .i64 le, .int .i64 pb, .int .i64 pc, .int .i64 pj, .int .i64 pt, .int .i64 nw, .int .i64 la, .slice ea1 E.length ec1, .slice (some ⟨gk, 0, none⟩) K'.length kc1, .int .i64 tu, .slice fa1 F.length fc1, .slice ra1 R.length rc1, .int .i64 tk, .int .i64 ac, .int .i64 dr] rfl HR.out sizeGate rfl rfl ?_; intro V hXb hgV hlV) | fail)
        rw [HAA.out, HKE.out, h0, hk4, sel_no, sel_no, sel_no, sel_no, sel_yes, sel_yes, sel_yes]
        exact bodyPost_ret (v := .tuple #[.agg #[.int .i64 de, .int .i64 qu, .int .i64 wi, .int .i64 ti, .int .i64 qa, .int .i64 bu, .int .i64 le, .int .i64 pb, .int .i64 pc, .int .i64 pj, .int .i64 pt, .int .i64 nw, .int .i64 la, .slice ea1 E.length ec1, .slice (some ⟨gk, 0, none⟩) K'.length kc1, .int .i64 tu, .slice fa1 F.length fc1, .slice ra1 R.length rc1, .int .i64 tk, .int .i64 ac, .int .i64 dr], .int .i64 AI, .int .i64 1]) (results_box3 _ Tryz.results60 rfl rfl rfl hXb _ Tryz.underlying32 sizeGate) rfl ⟨⟨ea1, ec1, some ⟨gk, 0, none⟩, kc1, fa1, fc1, ra1, rc1, vs', by rw [back1_len], by rw [back1_len]; exact (GOwn.low ho5 hgV (by have := HB1.out; omega)).base (by have := HB1.out; omega)⟩, hlV w.heap.size w (by omega) HL.out⟩
      | false =>
        go_wp2_with (first | (refine wpList_load_box rfl _ 32 rfl rfl HX.out _ Tryz.underlying32 sizeGate ?_) | fail)
        refine (gone_any _ de qu wi ti qa bu le pb pc pj pt nw la ea1 lE ec1 (some ⟨gk, 0, none⟩) lK kc1 tu fa1 lF fc1 ra1 lR rc1 tk ac dr E AI (by have h1 := HO4.out.is.ev; rw [HlE.out] at h1 ⊢; exact h1) (by have := HEN.out; have := HlE.out; omega)).mono ?_
        rintro e w5 ⟨⟨ea2, ec2, rfl, hoe⟩, hb⟩
        have HO5 := Lib.hid (HO4.out.newEv hb hoe HBW.out (fun e he => HO4.out.body e (List.filter_sublist.mem he)))
        replace HR := Lib.hid (HR.out.below hb)
        replace HX := Lib.hid (HX.out.below hb)
        replace HL := Lib.hid (low_after HL.out hb)
        replace HBW := Lib.hid (Nat.le_trans HBW.out hb.size)
        clear hb hoe x0 HO4
        obtain ⟨lG, hlG⟩ : ∃ l, l = (goneE AI E).length := ⟨_, rfl⟩
        rw [← hlG] at HO5 ⊢
        have HlG := Lib.hid hlG
        clear hlG
        go_upto_region 9 with (first | (refine wpList_store_box rfl _ _ 32 rfl rfl [.int .i64 de, .int .i64 qu, .int .i64 wi, .int .i64 ti, .int .i64 qa, .int .i64 bu, .int .i64 le, .int .i64 pb, .int .i64 pc, .int .i64 pj, .int .i64 pt, .int .i64 nw, .int .i64 la, .slice ea2 lG ec2, .slice (some ⟨gk, 0, none⟩) lK kc1, .int .i64 tu, .slice fa1 lF fc1, .slice ra1 lR rc1, .int .i64 tk, .int .i64 ac, .int .i64 dr] rfl HX.out sizeGate rfl rfl ?_; intro w6 hXb hgV hlV; have HX6 := Lib.hid hXb; have HG6 := Lib.hid hgV; have HL6 := Lib.hid (hlV w.heap.size w (by have := HK3.out; have := HB1.out; omega) HL.out); clear hXb hgV hlV) | fail)
        simp only [Act.put]
        have HO6 := Lib.hid (HO5.out.offbox HX.out HG6.out)
        have HR6 := Lib.hid (HR.out.grown HG6.out (by have := HK3.out; have := HB1.out; simp; omega))
        clear HO5 HR HL HX HG6
        have hac := HP.out.2.2.2.2.2.2.2.2.1
        have hwa : IntKind.i64.wrap (ac + 1) = ac + 1 := IntWalk.i64_in _ (by omega)
        have o19 := HX6.out.cell 19 _ rfl
        have f19 := HX6.out.frozen 19
        go_upto_region 10 with fail
        obtain ⟨w7, hV⟩ : ∃ V, V = w6.setCell ⟨k3, 19, none⟩ (.int .i64 (ac + 1)) := ⟨_, rfl⟩
        rw [← hV]
        have hg : w6.grownBy w7 (some k3) := by rw [hV]; exact store_grown [.int .i64 (ac + 1)] 19 _
        have HX7 := Lib.hid (show Box w7 k3 32 [.int .i64 de, .int .i64 qu, .int .i64 wi, .int .i64 ti, .int .i64 qa, .int .i64 bu, .int .i64 le, .int .i64 pb, .int .i64 pc, .int .i64 pj, .int .i64 pt, .int .i64 nw, .int .i64 la, .slice ea2 lG ec2, .slice (some ⟨gk, 0, none⟩) lK kc1, .int .i64 tu, .slice fa1 lF fc1, .slice ra1 lR rc1, .int .i64 tk, .int .i64 (ac + 1), .int .i64 dr] by rw [hV]; exact Box.store [.int .i64 (ac + 1)] 19 _ _ HX6.out)
        have HL7 := Lib.hid (show Below w.heap.size w w7 by rw [hV]; exact store_below (by have := HK3.out; have := HB1.out; omega) [.int .i64 (ac + 1)] 19 _ _ HL6.out)
        have HR7 := Lib.hid (HR6.out.grown hg (by have := HK3.out; have := HB1.out; simp; omega))
        have HO7 := Lib.hid (HO6.out.offbox HX6.out hg)
        clear hV hg o19 f19 hac hwa HX6 HL6 HR6 HO6
        go_wp2_with (first | (refine wpList_load_box rfl _ 32 rfl rfl HX7.out _ Tryz.underlying32 sizeGate ?_) | (refine wpList_store_box rfl _ _ 32 rfl rfl [.int .i64 de, .int .i64 qu, .int .i64 wi, .int .i64 ti, .int .i64 qa, .int .i64 bu, .int .i64 le, .int .i64 pb, .int .i64 pc, .int .i64 pj, .int .i64 pt, .int .i64 nw, .int .i64 la, .slice ea2 lG ec2, .slice (some ⟨gk, 0, none⟩) lK kc1, .int .i64 tu, .slice fa1 lF fc1, .slice ra1 lR rc1, .int .i64 tk, .int .i64 (ac + 1), .int .i64 dr] rfl HR7.out sizeGate rfl rfl ?_; intro V hXb hgV hlV) | fail)
        rw [HAA.out, HKE.out, h0, hk4, sel_no, sel_no, sel_no, sel_no, sel_no, sel_no, sel_no]
        exact bodyPost_ret (v := .tuple #[.agg #[.int .i64 de, .int .i64 qu, .int .i64 wi, .int .i64 ti, .int .i64 qa, .int .i64 bu, .int .i64 le, .int .i64 pb, .int .i64 pc, .int .i64 pj, .int .i64 pt, .int .i64 nw, .int .i64 la, .slice ea2 lG ec2, .slice (some ⟨gk, 0, none⟩) lK kc1, .int .i64 tu, .slice fa1 lF fc1, .slice ra1 lR rc1, .int .i64 tk, .int .i64 (ac + 1), .int .i64 dr], .int .i64 AI, .int .i64 0]) (results_box3 _ Tryz.results60 rfl rfl rfl hXb _ Tryz.underlying32 sizeGate) rfl ⟨⟨ea2, ec2, some ⟨gk, 0, none⟩, kc1, fa1, fc1, ra1, rc1, vs', by rw [← HlG.out, ← HlK2.out, ← HlF.out, ← HlR.out], by rw [← HlG.out, ← HlK2.out, ← HlF.out, ← HlR.out]; exact (HO7.out.low hgV (by have := HB1.out; omega)).base (by have := HB1.out; omega)⟩, hlV w.heap.size w (by omega) HL7.out⟩

end Go.Proofs.YtkndpkingmemoaaGreatDoor.Gat
namespace Go.Proofs.YtkndpkingmemoaaGreatDoor.Gat
open Go.RowKit
open Lnk (bOne bAfter IOwn IIs YOwn YIs below_keep below_drew' bcell low_after low_alloc grown_of_below)
open Frm (GotE gcode gK gD gE gS gI gB told_len FOk)
set_option linter.unusedVariables false
set_option linter.unusedSimpArgs false

theorem got_uni {s : ByteArray} {en : Ending} (h : GotE s en) : ∃ (kd fd fe fs fi : Int) (fb : ByteArray), en = .returned (.tuple #[.agg #[.int .i64 kd, .int .i64 fd, .int .i64 fe, .int .i64 fs, .int .i64 fi, .string fb], .int .i64 (gcode s)]) ∧ (gcode s = 0 → kd = gK s ∧ fd = gD s ∧ fe = gE s ∧ fs = gS s) := by
  rcases h with ⟨h0, rfl⟩ | ⟨h0, rfl⟩
  · exact ⟨_, _, _, _, _, _, by rw [h0], fun _ => ⟨rfl, rfl, rfl, rfl⟩⟩
  · exact ⟨_, _, _, _, _, _, rfl, fun h => absurd h h0⟩
theorem gcode_rng (s : ByteArray) : 0 ≤ gcode s ∧ gcode s ≤ 3 := by
  unfold Frm.gcode
  split
  · omega
  · split
    · omega
    · split <;> omega
/-- what comes of bytes: is the gate as it was -/
def rcvS (ok : Bool) (s : ByteArray) (de : Int) : Bool := !ok || (gcode s != 0) || decide (de < gD s) || (gK s == 1)
noncomputable def rcvA (K : List Lk) (s : ByteArray) : Int := ansId (K.getD (gD s - 1).toNat lk0) (gE s) (gS s)
noncomputable def rcvE (ok : Bool) (s : ByteArray) (de : Int) (K : List Lk) (E : List Ev) : List Ev :=
  sel (rcvS ok s de) E (sel (gK s == 3) (conE joinI (ok && inB 1 de (gD s)) K E (gD s)) (sel (rcvA K s == 0) E (sel (gK s == 4) (back1 E (rcvA K s)) (goneE (rcvA K s) E))))
noncomputable def rcvK (ok : Bool) (s : ByteArray) (de : Int) (K : List Lk) : List Lk :=
  sel (rcvS ok s de) K (sel (gK s == 3) (conK joinK (ok && inB 1 de (gD s)) K (gD s)) (sel (rcvA K s == 0) K (K.set (gD s - 1).toNat (ansK (K.getD (gD s - 1).toNat lk0) (gE s) (gS s)))))
noncomputable def rcvN (ok : Bool) (s : ByteArray) (de : Int) (K : List Lk) (ac : Int) : Int :=
  sel (rcvS ok s de) ac (sel (gK s == 3) ac (sel (rcvA K s == 0) ac (sel (gK s == 4) ac (ac + 1))))
noncomputable def rcvI (ok : Bool) (s : ByteArray) (de : Int) (K : List Lk) : Int := sel (rcvS ok s de) 0 (sel (gK s == 3) 0 (rcvA K s))
noncomputable def rcvC (ok : Bool) (s : ByteArray) (de : Int) (K : List Lk) : Int :=
  sel (!ok) 6 (sel (gcode s != 0) (2 + gcode s) (sel (decide (de < gD s)) 7 (sel (gK s == 1) 8 (sel (gK s == 3) 2 (sel (rcvA K s == 0) 9 (sel (gK s == 4) 1 0))))))

set_option maxRecDepth 100000 in
set_option maxHeartbeats 8000000 in
theorem specReceive_any (w : World) (de qu wi ti qa bu le pb pc pj pt nw la : Int) (ea : Option Addr) (en ec : Nat) (ka : Option Addr) (kn kc : Nat) (tu : Int) (fa : Option Addr) (fn fc : Nat) (ra : Option Addr) (rn rc : Nat) (tk ac dr : Int) (E : List Ev) (K : List Lk) (F R : List Int) (s : ByteArray) (h : GIs w.heap.size w ea en ka kn fa fn ra rn E K F R) (hs : Small en kn fn rn K) (hsz : s.size ≤ 281474976710656) :
    Calls Tryz.prog 18 #[.agg #[.int .i64 de, .int .i64 qu, .int .i64 wi, .int .i64 ti, .int .i64 qa, .int .i64 bu, .int .i64 le, .int .i64 pb, .int .i64 pc, .int .i64 pj, .int .i64 pt, .int .i64 nw, .int .i64 la, .slice ea en ec, .slice ka kn kc, .int .i64 tu, .slice fa fn fc, .slice ra rn rc, .int .i64 tk, .int .i64 ac, .int .i64 dr], .string s] w fun e w' => GEnd2 w w' de qu wi ti qa bu le pb pc pj pt nw la tu tk (rcvN (gokB de qu wi ti qa bu le pb pc pj pt nw la en kn tu fn rn tk ac dr E K F R) s de K ac) dr (rcvE (gokB de qu wi ti qa bu le pb pc pj pt nw la en kn tu fn rn tk ac dr E K F R) s de K E) (rcvK (gokB de qu wi ti qa bu le pb pc pj pt nw la en kn tu fn rn tk ac dr E K F R) s de K) F R (rcvI (gokB de qu wi ti qa bu le pb pc pj pt nw la en kn tu fn rn tk ac dr E K F R) s de K) (rcvC (gokB de qu wi ti qa bu le pb pc pj pt nw la en kn tu fn rn tk ac dr E K F R) s de K) e := by
  obtain ⟨W0, hW0⟩ : ∃ W, W = (w.alloc (.cells #[.int .i64 de, .int .i64 qu, .int .i64 wi, .int .i64 ti, .int .i64 qa, .int .i64 bu, .int .i64 le, .int .i64 pb, .int .i64 pc, .int .i64 pj, .int .i64 pt, .int .i64 nw, .int .i64 la, .slice ea en ec, .slice ka kn kc, .int .i64 tu, .slice fa fn fc, .slice ra rn rc, .int .i64 tk, .int .i64 ac, .int .i64 dr] 32)).alloc (.cells #[.int .i64 0, .int .i64 0, .int .i64 0, .int .i64 0, .int .i64 0, .int .i64 0, .int .i64 0, .int .i64 0, .int .i64 0, .int .i64 0, .int .i64 0, .int .i64 0, .int .i64 0, .slice none 0 0, .slice none 0 0, .int .i64 0, .slice none 0 0, .slice none 0 0, .int .i64 0, .int .i64 0, .int .i64 0] 32) := ⟨_, rfl⟩
  have hb01 := bOne w (.cells #[.int .i64 de, .int .i64 qu, .int .i64 wi, .int .i64 ti, .int .i64 qa, .int .i64 bu, .int .i64 le, .int .i64 pb, .int .i64 pc, .int .i64 pj, .int .i64 pt, .int .i64 nw, .int .i64 la, .slice ea en ec, .slice ka kn kc, .int .i64 tu, .slice fa fn fc, .slice ra rn rc, .int .i64 tk, .int .i64 ac, .int .i64 dr] 32)
  have hb02 := bOne (w.alloc (.cells #[.int .i64 de, .int .i64 qu, .int .i64 wi, .int .i64 ti, .int .i64 qa, .int .i64 bu, .int .i64 le, .int .i64 pb, .int .i64 pc, .int .i64 pj, .int .i64 pt, .int .i64 nw, .int .i64 la, .slice ea en ec, .slice ka kn kc, .int .i64 tu, .slice fa fn fc, .slice ra rn rc, .int .i64 tk, .int .i64 ac, .int .i64 dr] 32)) (.cells #[.int .i64 0, .int .i64 0, .int .i64 0, .int .i64 0, .int .i64 0, .int .i64 0, .int .i64 0, .int .i64 0, .int .i64 0, .int .i64 0, .int .i64 0, .int .i64 0, .int .i64 0, .slice none 0 0, .slice none 0 0, .int .i64 0, .slice none 0 0, .slice none 0 0, .int .i64 0, .int .i64 0, .int .i64 0] 32)
  have HA : Hid (Box W0 w.heap.size 32 [.int .i64 de, .int .i64 qu, .int .i64 wi, .int .i64 ti, .int .i64 qa, .int .i64 bu, .int .i64 le, .int .i64 pb, .int .i64 pc, .int .i64 pj, .int .i64 pt, .int .i64 nw, .int .i64 la, .slice ea en ec, .slice ka kn kc, .int .i64 tu, .slice fa fn fc, .slice ra rn rc, .int .i64 tk, .int .i64 ac, .int .i64 dr]) := Lib.hid (by rw [hW0]; exact (Box.new w [.int .i64 de, .int .i64 qu, .int .i64 wi, .int .i64 ti, .int .i64 qa, .int .i64 bu, .int .i64 le, .int .i64 pb, .int .i64 pc, .int .i64 pj, .int .i64 pt, .int .i64 nw, .int .i64 la, .slice ea en ec, .slice ka kn kc, .int .i64 tu, .slice fa fn fc, .slice ra rn rc, .int .i64 tk, .int .i64 ac, .int .i64 dr] 32).below hb02)
  have HR : Hid (Box W0 (w.heap.size + 1) 32 [.int .i64 0, .int .i64 0, .int .i64 0, .int .i64 0, .int .i64 0, .int .i64 0, .int .i64 0, .int .i64 0, .int .i64 0, .int .i64 0, .int .i64 0, .int .i64 0, .int .i64 0, .slice none 0 0, .slice none 0 0, .int .i64 0, .slice none 0 0, .slice none 0 0, .int .i64 0, .int .i64 0, .int .i64 0]) := Lib.hid (by
    rw [hW0]
    have := Box.new (w.alloc (.cells #[.int .i64 de, .int .i64 qu, .int .i64 wi, .int .i64 ti, .int .i64 qa, .int .i64 bu, .int .i64 le, .int .i64 pb, .int .i64 pc, .int .i64 pj, .int .i64 pt, .int .i64 nw, .int .i64 la, .slice ea en ec, .slice ka kn kc, .int .i64 tu, .slice fa fn fc, .slice ra rn rc, .int .i64 tk, .int .i64 ac, .int .i64 dr] 32)) [.int .i64 0, .int .i64 0, .int .i64 0, .int .i64 0, .int .i64 0, .int .i64 0, .int .i64 0, .int .i64 0, .int .i64 0, .int .i64 0, .int .i64 0, .int .i64 0, .int .i64 0, .slice none 0 0, .slice none 0 0, .int .i64 0, .slice none 0 0, .slice none 0 0, .int .i64 0, .int .i64 0, .int .i64 0] 32
    simpa using this)
  have HL : Hid (Below w.heap.size w W0) := Lib.hid (by rw [hW0]; exact hb01.trans (hb02.mono (by simp)))
  have HS0 := Lib.hid (show W0.heap.size = w.heap.size + 1 + 1 by rw [hW0]; simp)
  have HWE := Lib.hid hW0
  have HG := Lib.hid h
  have HSM := Lib.hid hs
  clear hW0 hb01 hb02 h hs
  go_enter Tryz.func18, Tryz.ntmps18
  go_upto_region 1 with fail
  rw [← HWE.out]
  clear HWE
  go_wp2_with fail
  refine (Frm.specGet_any s _ hsz).mono ?_
  rintro e w1 ⟨hgot, hb⟩
  obtain ⟨kd, fd, fe, fs, fi, fb, rfl, hfr⟩ := got_uni hgot
  obtain ⟨cc, hcc⟩ : ∃ c, c = gcode s := ⟨_, rfl⟩
  have HCR := Lib.hid (show 0 ≤ cc ∧ cc ≤ 3 by rw [hcc]; exact gcode_rng s)
  rw [← hcc] at hfr ⊢
  have HCC := Lib.hid hcc
  have HFR := Lib.hid hfr
  replace HA := Lib.hid (HA.out.below hb)
  replace HR := Lib.hid (HR.out.below hb)
  replace HL := Lib.hid (low_after HL.out hb)
  have HBW := Lib.hid (show w.heap.size + 1 < w1.heap.size by have := HR.out.lt; omega)
  clear hb hgot hcc hfr HS0
  obtain ⟨kf, hkf⟩ : ∃ k, k = w1.heap.size := ⟨_, rfl⟩
  go_upto_region 2 with fail
  obtain ⟨V0, hV0⟩ : ∃ V, V = w1.alloc (.cells #[.int .i64 kd, .int .i64 fd, .int .i64 fe, .int .i64 fs, .int .i64 fi, .string fb] 51) := ⟨_, rfl⟩
  have hb := bOne w1 (.cells #[.int .i64 kd, .int .i64 fd, .int .i64 fe, .int .i64 fs, .int .i64 fi, .string fb] 51)
  have HF := Lib.hid (show Box V0 kf 51 [.int .i64 kd, .int .i64 fd, .int .i64 fe, .int .i64 fs, .int .i64 fi, .string fb] by rw [hV0, hkf]; exact Box.new w1 [.int .i64 kd, .int .i64 fd, .int .i64 fe, .int .i64 fs, .int .i64 fi, .string fb] 51)
  rw [← hV0] at hb ⊢
  rw [← hkf]
  replace HA := Lib.hid (HA.out.below hb)
  replace HR := Lib.hid (HR.out.below hb)
  replace HL := Lib.hid (low_after HL.out hb)
  replace HBW := Lib.hid (Nat.lt_of_lt_of_le HBW.out hb.size)
  clear hb hV0 hkf
  go_wp2_with (first | (refine wpList_load_box rfl _ 32 rfl rfl HA.out _ Tryz.underlying32 sizeGate ?_) | (refine wpList_load_box rfl _ 51 rfl rfl HF.out _ Tryz.underlying51 sizeFrm ?_) | fail)
  refine (specGateOk_any _ de qu wi ti qa bu le pb pc pj pt nw la ea en ec ka kn kc tu fa fn fc ra rn rc tk ac dr E K F R (HG.out.here HL.out)).mono ?_
  rintro e w2 ⟨⟨x, rfl, hx⟩, hb⟩
  have HGB := Lib.hid (gokB_of hx)
  have HXP := Lib.hid hx
  replace HBW := Lib.hid (Nat.lt_of_lt_of_le HBW.out hb.size)
  replace HA := Lib.hid (HA.out.below hb)
  replace HR := Lib.hid (HR.out.below hb)
  replace HF := Lib.hid (HF.out.below hb)
  replace HL := Lib.hid (low_after HL.out hb)
  clear hb hx
  cases x with
  | false =>
    go_wp2_with (first | (refine wpList_load_box rfl _ 32 rfl rfl HA.out _ Tryz.underlying32 sizeGate ?_) | (refine wpList_load_box rfl _ 51 rfl rfl HF.out _ Tryz.underlying51 sizeFrm ?_) | fail)
    refine (specGCopy_any _ de qu wi ti qa bu le pb pc pj pt nw la ea en ec ka kn kc tu fa fn fc ra rn rc tk ac dr E K F R (HG.out.here HL.out) HSM.out).mono ?_
    rintro e v ⟨⟨ea1, ec1, ka1, kc1, fa1, fc1, ra1, rc1, vs, rfl, ho⟩, hb⟩
    have HBS := Lib.hid (HBW.out)
    replace HA := Lib.hid (HA.out.below hb)
    replace HR := Lib.hid (HR.out.below hb)
    replace HF := Lib.hid (HF.out.below hb)
    replace HL := Lib.hid (low_after HL.out hb)
    clear hb
    go_wp2_with (first | (refine wpList_store_box rfl _ _ 32 rfl rfl [.int .i64 de, .int .i64 qu, .int .i64 wi, .int .i64 ti, .int .i64 qa, .int .i64 bu, .int .i64 le, .int .i64 pb, .int .i64 pc, .int .i64 pj, .int .i64 pt, .int .i64 nw, .int .i64 la, .slice ea1 E.length ec1, .slice ka1 K.length kc1, .int .i64 tu, .slice fa1 F.length fc1, .slice ra1 R.length rc1, .int .i64 tk, .int .i64 ac, .int .i64 dr] rfl HR.out sizeGate rfl rfl ?_; intro V hXb hgV hlV) | fail)
    have hs : rcvS (gokB de qu wi ti qa bu le pb pc pj pt nw la en kn tu fn rn tk ac dr E K F R) s de = true := by unfold rcvS; rw [HGB.out]; rfl
    rw [show (rcvE (gokB de qu wi ti qa bu le pb pc pj pt nw la en kn tu fn rn tk ac dr E K F R) s de K E) = E from by unfold rcvE; rw [hs]; rfl, show (rcvK (gokB de qu wi ti qa bu le pb pc pj pt nw la en kn tu fn rn tk ac dr E K F R) s de K) = K from by unfold rcvK; rw [hs]; rfl, show (rcvN (gokB de qu wi ti qa bu le pb pc pj pt nw la en kn tu fn rn tk ac dr E K F R) s de K ac) = ac from by unfold rcvN; rw [hs]; rfl, show (rcvI (gokB de qu wi ti qa bu le pb pc pj pt nw la en kn tu fn rn tk ac dr E K F R) s de K) = 0 from by unfold rcvI; rw [hs]; rfl, show (rcvC (gokB de qu wi ti qa bu le pb pc pj pt nw la en kn tu fn rn tk ac dr E K F R) s de K) = 6 from by unfold rcvC; rw [HGB.out]; rfl]
    exact bodyPost_ret (v := .tuple #[.agg #[.int .i64 de, .int .i64 qu, .int .i64 wi, .int .i64 ti, .int .i64 qa, .int .i64 bu, .int .i64 le, .int .i64 pb, .int .i64 pc, .int .i64 pj, .int .i64 pt, .int .i64 nw, .int .i64 la, .slice ea1 E.length ec1, .slice ka1 K.length kc1, .int .i64 tu, .slice fa1 F.length fc1, .slice ra1 R.length rc1, .int .i64 tk, .int .i64 ac, .int .i64 dr], .int .i64 0, .int .i64 6]) (results_box3 _ Tryz.results18 rfl rfl rfl hXb _ Tryz.underlying32 sizeGate) rfl ⟨⟨ea1, ec1, ka1, kc1, fa1, fc1, ra1, rc1, vs, rfl, (ho.low hgV (by have := HBS.out; omega)).base (by have := HBS.out; omega)⟩, hlV w.heap.size w (by omega) HL.out⟩
  | true =>
  have HP := Lib.hid (HXP.out.1 rfl)
  clear HXP
  cases h1 : (cc != 0) with
  | true =>
    have hcr := HCR.out
    have hw1 : IntKind.i64.wrap (3 + cc) = 3 + cc := IntWalk.i64_in _ (by omega)
    have hw2 : IntKind.i64.wrap (3 + cc - 1) = 2 + cc := by rw [show 3 + cc - 1 = 2 + cc by omega]; exact IntWalk.i64_in _ (by omega)
    go_wp2_with (first | (refine wpList_load_box rfl _ 32 rfl rfl HA.out _ Tryz.underlying32 sizeGate ?_) | (refine wpList_load_box rfl _ 51 rfl rfl HF.out _ Tryz.underlying51 sizeFrm ?_) | fail)
    refine (specGCopy_any _ de qu wi ti qa bu le pb pc pj pt nw la ea en ec ka kn kc tu fa fn fc ra rn rc tk ac dr E K F R (HG.out.here HL.out) HSM.out).mono ?_
    rintro e v ⟨⟨ea1, ec1, ka1, kc1, fa1, fc1, ra1, rc1, vs, rfl, ho⟩, hb⟩
    have HBS := Lib.hid (HBW.out)
    replace HA := Lib.hid (HA.out.below hb)
    replace HR := Lib.hid (HR.out.below hb)
    replace HF := Lib.hid (HF.out.below hb)
    replace HL := Lib.hid (low_after HL.out hb)
    clear hb
    go_wp2_with (first | (refine wpList_store_box rfl _ _ 32 rfl rfl [.int .i64 de, .int .i64 qu, .int .i64 wi, .int .i64 ti, .int .i64 qa, .int .i64 bu, .int .i64 le, .int .i64 pb, .int .i64 pc, .int .i64 pj, .int .i64 pt, .int .i64 nw, .int .i64 la, .slice ea1 E.length ec1, .slice ka1 K.length kc1, .int .i64 tu, .slice fa1 F.length fc1, .slice ra1 R.length rc1, .int .i64 tk, .int .i64 ac, .int .i64 dr] rfl HR.out sizeGate rfl rfl ?_; intro V hXb hgV hlV) | fail)
    have hs : rcvS (gokB de qu wi ti qa bu le pb pc pj pt nw la en kn tu fn rn tk ac dr E K F R) s de = true := by unfold rcvS; rw [HGB.out, ← HCC.out, h1]; rfl
    rw [show (rcvE (gokB de qu wi ti qa bu le pb pc pj pt nw la en kn tu fn rn tk ac dr E K F R) s de K E) = E from by unfold rcvE; rw [hs]; rfl, show (rcvK (gokB de qu wi ti qa bu le pb pc pj pt nw la en kn tu fn rn tk ac dr E K F R) s de K) = K from by unfold rcvK; rw [hs]; rfl, show (rcvN (gokB de qu wi ti qa bu le pb pc pj pt nw la en kn tu fn rn tk ac dr E K F R) s de K ac) = ac from by unfold rcvN; rw [hs]; rfl, show (rcvI (gokB de qu wi ti qa bu le pb pc pj pt nw la en kn tu fn rn tk ac dr E K F R) s de K) = 0 from by unfold rcvI; rw [hs]; rfl, show (rcvC (gokB de qu wi ti qa bu le pb pc pj pt nw la en kn tu fn rn tk ac dr E K F R) s de K) = 2 + cc from by unfold rcvC; rw [HGB.out, ← HCC.out, h1]; rfl]
    exact bodyPost_ret (v := .tuple #[.agg #[.int .i64 de, .int .i64 qu, .int .i64 wi, .int .i64 ti, .int .i64 qa, .int .i64 bu, .int .i64 le, .int .i64 pb, .int .i64 pc, .int .i64 pj, .int .i64 pt, .int .i64 nw, .int .i64 la, .slice ea1 E.length ec1, .slice ka1 K.length kc1, .int .i64 tu, .slice fa1 F.length fc1, .slice ra1 R.length rc1, .int .i64 tk, .int .i64 ac, .int .i64 dr], .int .i64 0, .int .i64 (2 + cc)]) (results_box3 _ Tryz.results18 rfl rfl rfl hXb _ Tryz.underlying32 sizeGate) rfl ⟨⟨ea1, ec1, ka1, kc1, fa1, fc1, ra1, rc1, vs, rfl, (ho.low hgV (by have := HBS.out; omega)).base (by have := HBS.out; omega)⟩, hlV w.heap.size w (by omega) HL.out⟩
  | false =>
  have hc0 : cc = 0 := by simpa using h1
  subst hc0
  obtain ⟨rfl, rfl, rfl, rfl⟩ := HFR.out rfl
  have HFO := Lib.hid (told_len HCC.out.symm).2.2.1
  have hgd : 1 ≤ gD s ∧ gD s ≤ 6 := by have h := HFO.out; unfold Frm.FOk at h; omega
  have y1 := HF.out.cell 1 _ rfl
  have c0 := HA.out.cell 0 _ rfl
  cases h2 : decide (de < gD s) with
  | true =>
    go_wp2_with (first | (refine wpList_load_box rfl _ 32 rfl rfl HA.out _ Tryz.underlying32 sizeGate ?_) | (refine wpList_load_box rfl _ 51 rfl rfl HF.out _ Tryz.underlying51 sizeFrm ?_) | fail)
    refine (specGCopy_any _ de qu wi ti qa bu le pb pc pj pt nw la ea en ec ka kn kc tu fa fn fc ra rn rc tk ac dr E K F R (HG.out.here HL.out) HSM.out).mono ?_
    rintro e v ⟨⟨ea1, ec1, ka1, kc1, fa1, fc1, ra1, rc1, vs, rfl, ho⟩, hb⟩
    have HBS := Lib.hid (HBW.out)
    replace HA := Lib.hid (HA.out.below hb)
    replace HR := Lib.hid (HR.out.below hb)
    replace HF := Lib.hid (HF.out.below hb)
    replace HL := Lib.hid (low_after HL.out hb)
    clear hb
    go_wp2_with (first | (refine wpList_store_box rfl _ _ 32 rfl rfl [.int .i64 de, .int .i64 qu, .int .i64 wi, .int .i64 ti, .int .i64 qa, .int .i64 bu, .int .i64 le, .int .i64 pb, .int .i64 pc, .int .i64 pj, .int .i64 pt, .int .i64 nw, .int .i64 la, .slice ea1 E.length ec1, .slice ka1 K.length kc1, .int .i64 tu, .slice fa1 F.length fc1, .slice ra1 R.length rc1, .int .i64 tk, .int .i64 ac, .int .i64 dr] rfl HR.out sizeGate rfl rfl ?_; intro V hXb hgV hlV) | fail)
    have hs : rcvS (gokB de qu wi ti qa bu le pb pc pj pt nw la en kn tu fn rn tk ac dr E K F R) s de = true := by unfold rcvS; rw [HGB.out, ← HCC.out, h2]; rfl
    rw [show (rcvE (gokB de qu wi ti qa bu le pb pc pj pt nw la en kn tu fn rn tk ac dr E K F R) s de K E) = E from by unfold rcvE; rw [hs]; rfl, show (rcvK (gokB de qu wi ti qa bu le pb pc pj pt nw la en kn tu fn rn tk ac dr E K F R) s de K) = K from by unfold rcvK; rw [hs]; rfl, show (rcvN (gokB de qu wi ti qa bu le pb pc pj pt nw la en kn tu fn rn tk ac dr E K F R) s de K ac) = ac from by unfold rcvN; rw [hs]; rfl, show (rcvI (gokB de qu wi ti qa bu le pb pc pj pt nw la en kn tu fn rn tk ac dr E K F R) s de K) = 0 from by unfold rcvI; rw [hs]; rfl, show (rcvC (gokB de qu wi ti qa bu le pb pc pj pt nw la en kn tu fn rn tk ac dr E K F R) s de K) = 7 from by unfold rcvC; rw [HGB.out, ← HCC.out, h2]; rfl]
    exact bodyPost_ret (v := .tuple #[.agg #[.int .i64 de, .int .i64 qu, .int .i64 wi, .int .i64 ti, .int .i64 qa, .int .i64 bu, .int .i64 le, .int .i64 pb, .int .i64 pc, .int .i64 pj, .int .i64 pt, .int .i64 nw, .int .i64 la, .slice ea1 E.length ec1, .slice ka1 K.length kc1, .int .i64 tu, .slice fa1 F.length fc1, .slice ra1 R.length rc1, .int .i64 tk, .int .i64 ac, .int .i64 dr], .int .i64 0, .int .i64 7]) (results_box3 _ Tryz.results18 rfl rfl rfl hXb _ Tryz.underlying32 sizeGate) rfl ⟨⟨ea1, ec1, ka1, kc1, fa1, fc1, ra1, rc1, vs, rfl, (ho.low hgV (by have := HBS.out; omega)).base (by have := HBS.out; omega)⟩, hlV w.heap.size w (by omega) HL.out⟩
  | false =>
  have y0 := HF.out.cell 0 _ rfl
  cases h3 : (gK s == 1) with
  | true =>
    go_wp2_with (first | (refine wpList_load_box rfl _ 32 rfl rfl HA.out _ Tryz.underlying32 sizeGate ?_) | (refine wpList_load_box rfl _ 51 rfl rfl HF.out _ Tryz.underlying51 sizeFrm ?_) | fail)
    refine (specGCopy_any _ de qu wi ti qa bu le pb pc pj pt nw la ea en ec ka kn kc tu fa fn fc ra rn rc tk ac dr E K F R (HG.out.here HL.out) HSM.out).mono ?_
    rintro e v ⟨⟨ea1, ec1, ka1, kc1, fa1, fc1, ra1, rc1, vs, rfl, ho⟩, hb⟩
    have HBS := Lib.hid (HBW.out)
    replace HA := Lib.hid (HA.out.below hb)
    replace HR := Lib.hid (HR.out.below hb)
    replace HF := Lib.hid (HF.out.below hb)
    replace HL := Lib.hid (low_after HL.out hb)
    clear hb
    go_wp2_with (first | (refine wpList_store_box rfl _ _ 32 rfl rfl [.int .i64 de, .int .i64 qu, .int .i64 wi, .int .i64 ti, .int .i64 qa, .int .i64 bu, .int .i64 le, .int .i64 pb, .int .i64 pc, .int .i64 pj, .int .i64 pt, .int .i64 nw, .int .i64 la, .slice ea1 E.length ec1, .slice ka1 K.length kc1, .int .i64 tu, .slice fa1 F.length fc1, .slice ra1 R.length rc1, .int .i64 tk, .int .i64 ac, .int .i64 dr] rfl HR.out sizeGate rfl rfl ?_; intro V hXb hgV hlV) | fail)
    have hs : rcvS (gokB de qu wi ti qa bu le pb pc pj pt nw la en kn tu fn rn tk ac dr E K F R) s de = true := by unfold rcvS; rw [HGB.out, ← HCC.out, h2, h3]; rfl
    rw [show (rcvE (gokB de qu wi ti qa bu le pb pc pj pt nw la en kn tu fn rn tk ac dr E K F R) s de K E) = E from by unfold rcvE; rw [hs]; rfl, show (rcvK (gokB de qu wi ti qa bu le pb pc pj pt nw la en kn tu fn rn tk ac dr E K F R) s de K) = K from by unfold rcvK; rw [hs]; rfl, show (rcvN (gokB de qu wi ti qa bu le pb pc pj pt nw la en kn tu fn rn tk ac dr E K F R) s de K ac) = ac from by unfold rcvN; rw [hs]; rfl, show (rcvI (gokB de qu wi ti qa bu le pb pc pj pt nw la en kn tu fn rn tk ac dr E K F R) s de K) = 0 from by unfold rcvI; rw [hs]; rfl, show (rcvC (gokB de qu wi ti qa bu le pb pc pj pt nw la en kn tu fn rn tk ac dr E K F R) s de K) = 8 from by unfold rcvC; rw [HGB.out, ← HCC.out, h2, h3]; rfl]
    exact bodyPost_ret (v := .tuple #[.agg #[.int .i64 de, .int .i64 qu, .int .i64 wi, .int .i64 ti, .int .i64 qa, .int .i64 bu, .int .i64 le, .int .i64 pb, .int .i64 pc, .int .i64 pj, .int .i64 pt, .int .i64 nw, .int .i64 la, .slice ea1 E.length ec1, .slice ka1 K.length kc1, .int .i64 tu, .slice fa1 F.length fc1, .slice ra1 R.length rc1, .int .i64 tk, .int .i64 ac, .int .i64 dr], .int .i64 0, .int .i64 8]) (results_box3 _ Tryz.results18 rfl rfl rfl hXb _ Tryz.underlying32 sizeGate) rfl ⟨⟨ea1, ec1, ka1, kc1, fa1, fc1, ra1, rc1, vs, rfl, (ho.low hgV (by have := HBS.out; omega)).base (by have := HBS.out; omega)⟩, hlV w.heap.size w (by omega) HL.out⟩
  | false =>
  have hsf : rcvS (gokB de qu wi ti qa bu le pb pc pj pt nw la en kn tu fn rn tk ac dr E K F R) s de = false := by unfold rcvS; rw [HGB.out, ← HCC.out, h2, h3]; rfl
  have HSF := Lib.hid hsf
  cases h4 : (gK s == 3) with
  | true =>
    clear hsf
    go_wp2_with (first | (refine wpList_load_box rfl _ 32 rfl rfl HA.out _ Tryz.underlying32 sizeGate ?_) | (refine wpList_load_box rfl _ 51 rfl rfl HF.out _ Tryz.underlying51 sizeFrm ?_) | fail)
    refine (specConn_any _ de qu wi ti qa bu le pb pc pj pt nw la ea en ec ka kn kc tu fa fn fc ra rn rc tk ac dr E K F R (gD s) (HG.out.here HL.out) HSM.out).mono ?_
    rintro e v ⟨⟨ea1, ec1, ka1, kc1, fa1, fc1, ra1, rc1, vs, rfl, ho⟩, hb⟩
    have HBS := Lib.hid (HBW.out)
    replace HA := Lib.hid (HA.out.below hb)
    replace HR := Lib.hid (HR.out.below hb)
    replace HF := Lib.hid (HF.out.below hb)
    replace HL := Lib.hid (low_after HL.out hb)
    clear hb c0 y0 y1
    obtain ⟨E', hE'⟩ : ∃ X, X = conE joinI ((gokB de qu wi ti qa bu le pb pc pj pt nw la en kn tu fn rn tk ac dr E K F R) && inB 1 de (gD s)) K E (gD s) := ⟨_, rfl⟩
    obtain ⟨K', hK'⟩ : ∃ X, X = conK joinK ((gokB de qu wi ti qa bu le pb pc pj pt nw la en kn tu fn rn tk ac dr E K F R) && inB 1 de (gD s)) K (gD s) := ⟨_, rfl⟩
    rw [← hE', ← hK'] at ho ⊢
    have HE := Lib.hid hE'
    have HK := Lib.hid hK'
    clear hE' hK'
    go_wp2_with (first | (refine wpList_store_box rfl _ _ 32 rfl rfl [.int .i64 de, .int .i64 qu, .int .i64 wi, .int .i64 ti, .int .i64 qa, .int .i64 bu, .int .i64 le, .int .i64 pb, .int .i64 pc, .int .i64 pj, .int .i64 pt, .int .i64 nw, .int .i64 la, .slice ea1 E'.length ec1, .slice ka1 K'.length kc1, .int .i64 tu, .slice fa1 F.length fc1, .slice ra1 R.length rc1, .int .i64 tk, .int .i64 ac, .int .i64 dr] rfl HR.out sizeGate rfl rfl ?_; intro V hXb hgV hlV) | fail)
    rw [show (rcvE (gokB de qu wi ti qa bu le pb pc pj pt nw la en kn tu fn rn tk ac dr E K F R) s de K E) = E' from by unfold rcvE; rw [HSF.out, h4, sel_no, sel_yes, HE.out], show (rcvK (gokB de qu wi ti qa bu le pb pc pj pt nw la en kn tu fn rn tk ac dr E K F R) s de K) = K' from by unfold rcvK; rw [HSF.out, h4, sel_no, sel_yes, HK.out], show (rcvN (gokB de qu wi ti qa bu le pb pc pj pt nw la en kn tu fn rn tk ac dr E K F R) s de K ac) = ac from by unfold rcvN; rw [HSF.out, h4]; rfl, show (rcvI (gokB de qu wi ti qa bu le pb pc pj pt nw la en kn tu fn rn tk ac dr E K F R) s de K) = 0 from by unfold rcvI; rw [HSF.out, h4]; rfl, show (rcvC (gokB de qu wi ti qa bu le pb pc pj pt nw la en kn tu fn rn tk ac dr E K F R) s de K) = 2 from by unfold rcvC; rw [HGB.out, ← HCC.out, h2, h3, h4]; rfl]
    exact bodyPost_ret (v := .tuple #[.agg #[.int .i64 de, .int .i64 qu, .int .i64 wi, .int .i64 ti, .int .i64 qa, .int .i64 bu, .int .i64 le, .int .i64 pb, .int .i64 pc, .int .i64 pj, .int .i64 pt, .int .i64 nw, .int .i64 la, .slice ea1 E'.length ec1, .slice ka1 K'.length kc1, .int .i64 tu, .slice fa1 F.length fc1, .slice ra1 R.length rc1, .int .i64 tk, .int .i64 ac, .int .i64 dr], .int .i64 0, .int .i64 2]) (results_box3 _ Tryz.results18 rfl rfl rfl hXb _ Tryz.underlying32 sizeGate) rfl ⟨⟨ea1, ec1, ka1, kc1, fa1, fc1, ra1, rc1, vs, rfl, (ho.low hgV (by have := HBS.out; omega)).base (by have := HBS.out; omega)⟩, hlV w.heap.size w (by omega) HL.out⟩
  | false =>
    clear hsf
    go_wp2_with (first | (refine wpList_load_box rfl _ 32 rfl rfl HA.out _ Tryz.underlying32 sizeGate ?_) | (refine wpList_load_box rfl _ 51 rfl rfl HF.out _ Tryz.underlying51 sizeFrm ?_) | fail)
    refine (specAnswerG_any _ de qu wi ti qa bu le pb pc pj pt nw la ea en ec ka kn kc tu fa fn fc ra rn rc tk ac dr E K F R (gK s) (gD s) (gE s) (gS s) fi fb (HG.out.here HL.out) HSM.out HP.out (by have h2' := of_decide_eq_false h2; omega)).mono ?_
    rintro e v ⟨⟨ea1, ec1, ka1, kc1, fa1, fc1, ra1, rc1, vs, rfl, ho⟩, hb⟩
    have HBS := Lib.hid (HBW.out)
    replace HA := Lib.hid (HA.out.below hb)
    replace HR := Lib.hid (HR.out.below hb)
    replace HF := Lib.hid (HF.out.below hb)
    replace HL := Lib.hid (low_after HL.out hb)
    clear hb c0 y0 y1
    obtain ⟨A, hA⟩ : ∃ X, X = ansId (K.getD (gD s - 1).toNat lk0) (gE s) (gS s) := ⟨_, rfl⟩
    rw [← hA] at ho ⊢
    obtain ⟨E', hE'⟩ : ∃ X, X = (sel (A == 0) E (sel (gK s == 4) (back1 E A) (goneE A E))) := ⟨_, rfl⟩
    obtain ⟨K', hK'⟩ : ∃ X, X = (sel (A == 0) K (K.set (gD s - 1).toNat (ansK (K.getD (gD s - 1).toNat lk0) (gE s) (gS s)))) := ⟨_, rfl⟩
    obtain ⟨N', hN'⟩ : ∃ X, X = (sel (A == 0) ac (sel (gK s == 4) ac (ac + 1))) := ⟨_, rfl⟩
    obtain ⟨C', hC'⟩ : ∃ X, X = (sel (A == 0) (9 : Int) (sel (gK s == 4) 1 0)) := ⟨_, rfl⟩
    rw [← hE', ← hK'] at ho
    rw [← hE', ← hK', ← hN', ← hC']
    have HE := Lib.hid hE'
    have HK := Lib.hid hK'
    have HN := Lib.hid hN'
    have HC := Lib.hid hC'
    have HAA := Lib.hid (show rcvA K s = A from hA.symm)
    clear hE' hK' hN' hC' hA
    go_wp2_with (first | (refine wpList_store_box rfl _ _ 32 rfl rfl [.int .i64 de, .int .i64 qu, .int .i64 wi, .int .i64 ti, .int .i64 qa, .int .i64 bu, .int .i64 le, .int .i64 pb, .int .i64 pc, .int .i64 pj, .int .i64 pt, .int .i64 nw, .int .i64 la, .slice ea1 E'.length ec1, .slice ka1 K'.length kc1, .int .i64 tu, .slice fa1 F.length fc1, .slice ra1 R.length rc1, .int .i64 tk, .int .i64 N', .int .i64 dr] rfl HR.out sizeGate rfl rfl ?_; intro V hXb hgV hlV) | fail)
    rw [show (rcvE (gokB de qu wi ti qa bu le pb pc pj pt nw la en kn tu fn rn tk ac dr E K F R) s de K E) = E' from by unfold rcvE; rw [HSF.out, h4, sel_no, sel_no, HAA.out, HE.out], show (rcvK (gokB de qu wi ti qa bu le pb pc pj pt nw la en kn tu fn rn tk ac dr E K F R) s de K) = K' from by unfold rcvK; rw [HSF.out, h4, sel_no, sel_no, HAA.out, HK.out], show (rcvN (gokB de qu wi ti qa bu le pb pc pj pt nw la en kn tu fn rn tk ac dr E K F R) s de K ac) = N' from by unfold rcvN; rw [HSF.out, h4, sel_no, sel_no, HAA.out, HN.out], show (rcvI (gokB de qu wi ti qa bu le pb pc pj pt nw la en kn tu fn rn tk ac dr E K F R) s de K) = A from by unfold rcvI; rw [HSF.out, h4, sel_no, sel_no, HAA.out], show (rcvC (gokB de qu wi ti qa bu le pb pc pj pt nw la en kn tu fn rn tk ac dr E K F R) s de K) = C' from by unfold rcvC; rw [HGB.out, ← HCC.out, h2, h3, h4, HAA.out, HC.out]; rfl]
    exact bodyPost_ret (v := .tuple #[.agg #[.int .i64 de, .int .i64 qu, .int .i64 wi, .int .i64 ti, .int .i64 qa, .int .i64 bu, .int .i64 le, .int .i64 pb, .int .i64 pc, .int .i64 pj, .int .i64 pt, .int .i64 nw, .int .i64 la, .slice ea1 E'.length ec1, .slice ka1 K'.length kc1, .int .i64 tu, .slice fa1 F.length fc1, .slice ra1 R.length rc1, .int .i64 tk, .int .i64 N', .int .i64 dr], .int .i64 A, .int .i64 C']) (results_box3 _ Tryz.results18 rfl rfl rfl hXb _ Tryz.underlying32 sizeGate) rfl ⟨⟨ea1, ec1, ka1, kc1, fa1, fc1, ra1, rc1, vs, rfl, (ho.low hgV (by have := HBS.out; omega)).base (by have := HBS.out; omega)⟩, hlV w.heap.size w (by omega) HL.out⟩

end Go.Proofs.YtkndpkingmemoaaGreatDoor.Gat
