/-
  The specification's Drain.
  The specification's l08Code and Submit.
-/
import Derived.Test.YtkndpkingmemoaaDoorMgj
import Derived.Test.YtkndpkingmemoaaDoorMgg
namespace Go.Proofs.YtkndpkingmemoaaDoor.Gat
open Go.RowKit
open Lnk (bOne bAfter IOwn IIs YOwn YIs below_keep below_drew' bcell low_after low_alloc grown_of_below)
set_option linter.unusedVariables false
set_option linter.unusedSimpArgs false

section
variable {P : Program} {w : World} {k : Nat} {T : TypeId} {l : List Value} {ops : Array Oper} {Q : Exit → Act → World → Prop} {o : Oper} {a : Act}
end
theorem Rw.At.offbox {B : Nat} {w : World} {r : Rw} {k : Nat} {T : TypeId} {l : List Value} (h : r.At B w) (hb : Box w k T l) (hne : r.E ≠ T) : r.v.ownBlock = none ∨ r.v.ownBlock ≠ some k := by
  rcases h.2 with ⟨e, _⟩ | ⟨g, c, cur, e, _, hg, _⟩
  · left; rw [e]; rfl
  · right
    rw [e]
    intro e2
    simp only [Value.ownBlock, Option.some.injEq] at e2
    subst e2
    have h1 : w.heap[g]? = some (.cells l.toArray T) := hb
    rw [hg] at h1
    simp only [Option.some.injEq, Obj.cells.injEq] at h1
    exact hne h1.2.1
theorem Rws.offbox {B : Nat} {w w' : World} {L : List Rw} {k : Nat} {T : TypeId} {l : List Value} (h : Rws B w L) (hb : Box w k T l) (hne : ∀ r ∈ L, r.E ≠ T) (hg : w.grownBy w' (some k)) : Rws B w' L := h.kept hg fun r hr => (h.at_ r hr).offbox hb (hne r hr)
theorem flRs_ty : ∀ {K : List Lk} {vs : List Value} {r : Rw}, r ∈ flRs K vs → r.E = 86
  | [], _, r, h => by simp [flRs] at h
  | k :: K, [], r, h => by simp [flRs] at h
  | k :: K, v :: vs, r, h => by
    simp only [flRs, List.mem_cons] at h
    rcases h with rfl | h
    · rfl
    · exact flRs_ty h
theorem gRows_ty {ev lk lf lt : Value} {vs : List Value} {E : List Ev} {K : List Lk} {F R : List Int} : ∀ r ∈ gRows ev lk lf lt vs E K F R, r.E ≠ 33 := by
  intro r hr
  unfold gRows at hr
  simp only [List.mem_cons] at hr
  rcases hr with rfl | rfl | rfl | rfl | hr
  · exact (by decide : (55 : TypeId) ≠ 33)
  · exact (by decide : (44 : TypeId) ≠ 33)
  · exact (by decide : (3 : TypeId) ≠ 33)
  · exact (by decide : (3 : TypeId) ≠ 33)
  · rw [flRs_ty hr]
    exact (by decide : (86 : TypeId) ≠ 33)
theorem GOwn.offbox {B : Nat} {w w' : World} {ev lk lf lt : Value} {vs : List Value} {E : List Ev} {K : List Lk} {F R : List Int} {k : Nat} {l : List Value} (h : GOwn B w ev lk lf lt vs E K F R) (hb : Box w k 33 l) (hg : w.grownBy w' (some k)) : GOwn B w' ev lk lf lt vs E K F R := ⟨h.rows.offbox hb gRows_ty hg, h.len, h.body⟩
theorem results_box3 {P : Program} {w : World} {fn : Func} {t s u : Tmp} {ty T : TypeId} {k : Nat} {l : List Value} {v v2 : Value} (tmps : Array Value) (h : fn.results = #[.cell t ty, .tmp s, .tmp u]) (hs : tmps.getD t undef = .pointer (some ⟨k, 0, none⟩)) (hv : tmps.getD s undef = v) (hv2 : tmps.getD u undef = v2) (hb : Box w k T l) (fs : Array Field) (hu : P.underlying ty = some (.struct fs)) (hi : (P.info? ty).map (·.size) = some l.length) :
    (results fn tmps).run P w = .ok (.tuple #[.agg l.toArray, v, v2]) w := by
  have hrun := run_loadVar_row (P := P) w k T ty l.toArray (0, 0) _ hb hu rfl (by simpa using hi)
  have hs' : tmps[t]?.getD undef = .pointer (some ⟨k, 0, none⟩) := by rw [← hs]; simp [Array.getD_eq_getD_getElem?]
  have hv' : tmps[s]?.getD undef = v := by rw [← hv]; simp [Array.getD_eq_getD_getElem?]
  have hw' : tmps[u]?.getD undef = v2 := by rw [← hv2]; simp [Array.getD_eq_getD_getElem?]
  simp [results, h, hs', hv', hw', asAddr, hrun]
section
variable {B : Nat} {w w' : World} {ev lk lf lt : Value} {vs : List Value} {E : List Ev} {K : List Lk} {F R : List Int}
end
def sel {α : Type} (ok : Bool) (a b : α) : α := if ok then a else b
theorem sel_yes {α : Type} (a b : α) : sel true a b = a := rfl
theorem sel_no {α : Type} (a b : α) : sel false a b = b := rfl
end Go.Proofs.YtkndpkingmemoaaDoor.Gat
namespace Go.Proofs.YtkndpkingmemoaaDoor.Gat
open Go.RowKit
open Lnk (bOne bAfter IOwn IIs YOwn YIs below_keep below_drew' bcell low_after low_alloc grown_of_below)
set_option linter.unusedVariables false
set_option linter.unusedSimpArgs false

theorem ne_eg : (55 : TypeId) ≠ 33 := by decide
/-- the code of what is handed in -/
def subC (ok : Bool) (nw de d c : Int) (bs : Nat) (pt t qu : Int) (en : Nat) (la : Int) (E : List Ev) : Int :=
  cond (!ok) 1 (cond (nw == 1000000000) 2 (cond (!inB 1 de d) 3 (cond (!inB 1 9 c) 4 (cond (decide ((40 : Int) < (bs : Int))) 5 (cond (!inB 1 pt t) 6 (cond (decide (qu ≤ (openN d E : Int))) 7 (cond ((en : Int) == 60 || la == 9999) 8 0)))))))
theorem subC_ok {ok : Bool} {nw de d c : Int} {bs : Nat} {pt t qu : Int} {en : Nat} {la : Int} {E : List Ev} (h : subC ok nw de d c bs pt t qu en la E = 0) : ok = true := by
  cases ok with
  | true => rfl
  | false => simp [subC] at h

set_option maxRecDepth 100000 in
set_option maxHeartbeats 8000000 in
theorem specCode_any (w : World) (de qu wi ti qa bu le pb pc pj pt nw la : Int) (ea : Option Addr) (en ec : Nat) (ka : Option Addr) (kn kc : Nat) (tu : Int) (fa : Option Addr) (fn fc : Nat) (ra : Option Addr) (rn rc : Nat) (tk ac dr : Int) (E : List Ev) (K : List Lk) (F R : List Int) (d c : Int) (bd : ByteArray) (t : Int) (h : GIs w.heap.size w ea en ka kn fa fn ra rn E K F R) (hbd : bd.size ≤ maxLen) :
    Calls Tryd.prog 24 #[.agg #[.int .i64 de, .int .i64 qu, .int .i64 wi, .int .i64 ti, .int .i64 qa, .int .i64 bu, .int .i64 le, .int .i64 pb, .int .i64 pc, .int .i64 pj, .int .i64 pt, .int .i64 nw, .int .i64 la, .slice ea en ec, .slice ka kn kc, .int .i64 tu, .slice fa fn fc, .slice ra rn rc, .int .i64 tk, .int .i64 ac, .int .i64 dr], .int .i64 d, .int .i64 c, .string bd, .int .i64 t] w fun e w' => e = .returned (.int .i64 (subC (gokB de qu wi ti qa bu le pb pc pj pt nw la en kn tu fn rn tk ac dr E K F R) nw de d c bd.size pt t qu en la E)) ∧ Below w.heap.size w w' := by
  obtain ⟨W0, hW0⟩ : ∃ W, W = w.alloc (.cells #[.int .i64 de, .int .i64 qu, .int .i64 wi, .int .i64 ti, .int .i64 qa, .int .i64 bu, .int .i64 le, .int .i64 pb, .int .i64 pc, .int .i64 pj, .int .i64 pt, .int .i64 nw, .int .i64 la, .slice ea en ec, .slice ka kn kc, .int .i64 tu, .slice fa fn fc, .slice ra rn rc, .int .i64 tk, .int .i64 ac, .int .i64 dr] 33) := ⟨_, rfl⟩
  have HA : Hid (Box W0 w.heap.size 33 [.int .i64 de, .int .i64 qu, .int .i64 wi, .int .i64 ti, .int .i64 qa, .int .i64 bu, .int .i64 le, .int .i64 pb, .int .i64 pc, .int .i64 pj, .int .i64 pt, .int .i64 nw, .int .i64 la, .slice ea en ec, .slice ka kn kc, .int .i64 tu, .slice fa fn fc, .slice ra rn rc, .int .i64 tk, .int .i64 ac, .int .i64 dr]) := Lib.hid (by rw [hW0]; exact Box.new w [.int .i64 de, .int .i64 qu, .int .i64 wi, .int .i64 ti, .int .i64 qa, .int .i64 bu, .int .i64 le, .int .i64 pb, .int .i64 pc, .int .i64 pj, .int .i64 pt, .int .i64 nw, .int .i64 la, .slice ea en ec, .slice ka kn kc, .int .i64 tu, .slice fa fn fc, .slice ra rn rc, .int .i64 tk, .int .i64 ac, .int .i64 dr] 33)
  have HL : Hid (Below w.heap.size w W0) := Lib.hid (by rw [hW0]; exact bOne _ _)
  have HWE := Lib.hid hW0
  have HG := Lib.hid h
  clear hW0 h
  unfold maxLen at hbd
  go_enter Tryd.func24, Tryd.ntmps24
  go_upto_region 1 with fail
  rw [← HWE.out]
  clear HWE
  go_wp2_with (first | (refine wpList_load_box rfl _ 33 rfl rfl HA.out _ Tryd.underlying33 sizeGate ?_) | fail)
  refine (specGateOk_any _ de qu wi ti qa bu le pb pc pj pt nw la ea en ec ka kn kc tu fa fn fc ra rn rc tk ac dr E K F R (HG.out.here HL.out)).mono ?_
  rintro e w2 ⟨⟨x, rfl, hx⟩, hb⟩
  have HGB := Lib.hid (gokB_of hx)
  have HXP := Lib.hid hx
  replace HA := Lib.hid (HA.out.below hb)
  replace HL := Lib.hid (low_after HL.out hb)
  clear hx hb
  have c0 := HA.out.cell 0 _ rfl
  have c1 := HA.out.cell 1 _ rfl
  have c2 := HA.out.cell 2 _ rfl
  have c10 := HA.out.cell 10 _ rfl
  have c11 := HA.out.cell 11 _ rfl
  have c12 := HA.out.cell 12 _ rfl
  have c13 := HA.out.cell 13 _ rfl
  cases x with
  | false =>
    go_wp2_with fail
    go_ret
    exact ⟨(show Ending.returned (Value.int .i64 1) = _ from by unfold subC; rw [HGB.out]; simp only [cond_true, cond_false, Bool.not_true, Bool.not_false, Bool.or_true, Bool.true_or, Bool.or_false, Bool.false_or]), HL.out⟩
  | true =>
  have HP := Lib.hid (HXP.out.1 rfl)
  clear HXP
  cases h2 : (nw == 1000000000) with
  | true =>
    go_wp2_with fail
    go_ret
    exact ⟨(show Ending.returned (Value.int .i64 2) = _ from by unfold subC; rw [HGB.out]; simp only [h2, cond_true, cond_false, Bool.not_true, Bool.not_false, Bool.or_true, Bool.true_or, Bool.or_false, Bool.false_or]), HL.out⟩
  | false =>
  go_wp2_with fail
  refine (in_any d 1 de _).mono ?_
  rintro e v ⟨rfl, hb⟩
  subst hb
  cases h3 : inB 1 de d with
  | false =>
    go_wp2_with fail
    go_ret
    exact ⟨(show Ending.returned (Value.int .i64 3) = _ from by unfold subC; rw [HGB.out]; simp only [h2, h3, cond_true, cond_false, Bool.not_true, Bool.not_false, Bool.or_true, Bool.true_or, Bool.or_false, Bool.false_or]), HL.out⟩
  | true =>
  go_wp2_with fail
  refine (in_any c 1 9 _).mono ?_
  rintro e v ⟨rfl, hb⟩
  subst hb
  cases h4 : inB 1 9 c with
  | false =>
    go_wp2_with fail
    go_ret
    exact ⟨(show Ending.returned (Value.int .i64 4) = _ from by unfold subC; rw [HGB.out]; simp only [h2, h3, h4, cond_true, cond_false, Bool.not_true, Bool.not_false, Bool.or_true, Bool.true_or, Bool.or_false, Bool.false_or]), HL.out⟩
  | true =>
  cases h5 : decide ((40 : Int) < (bd.size : Int)) with
  | true =>
    go_wp2_with fail
    go_ret
    exact ⟨(show Ending.returned (Value.int .i64 5) = _ from by unfold subC; rw [HGB.out]; simp only [h2, h3, h4, h5, cond_true, cond_false, Bool.not_true, Bool.not_false, Bool.or_true, Bool.true_or, Bool.or_false, Bool.false_or]), HL.out⟩
  | false =>
  go_wp2_with fail
  refine (in_any t 1 pt _).mono ?_
  rintro e v ⟨rfl, hb⟩
  subst hb
  cases h6 : inB 1 pt t with
  | false =>
    go_wp2_with fail
    go_ret
    exact ⟨(show Ending.returned (Value.int .i64 6) = _ from by unfold subC; rw [HGB.out]; simp only [h2, h3, h4, h5, h6, cond_true, cond_false, Bool.not_true, Bool.not_false, Bool.or_true, Bool.true_or, Bool.or_false, Bool.false_or]), HL.out⟩
  | true =>
  clear c0 c1 c2 c10 c11 c12 c13
  go_upto_region 13 with fail
  have HQ := Lib.hid (below_drew' (Below.refl w2.heap.size w2))
  have HT := Lib.hid (HG.out.here (low_after HL.out HQ.out))
  refine wp_region_held_drew (S := fun w' => (Box w' w.heap.size 33 [.int .i64 de, .int .i64 qu, .int .i64 wi, .int .i64 ti, .int .i64 qa, .int .i64 bu, .int .i64 le, .int .i64 pb, .int .i64 pc, .int .i64 pj, .int .i64 pt, .int .i64 nw, .int .i64 la, .slice ea en ec, .slice ka kn kc, .int .i64 tu, .slice fa fn fc, .slice ra rn rc, .int .i64 tk, .int .i64 ac, .int .i64 dr])) (by kernel_rfl) (HA.out.below HQ.out) (fun hHeld => ?_)
  replace HA := Lib.hid (HA.out.below HQ.out)
  replace HL := Lib.hid (low_after HL.out HQ.out)
  clear HQ
  refine wpAnyH_take (i := 0) (oi := { dst := some _, op := _, type := _, pos := _, after := _, guard := _ }) (v := ?_) rfl (by kernel_rfl) (by kernel_rfl) (by kernel_rfl) (fun _ _ _ h => h) ?_ (by with_reducible assumption) ?_
  rotate_left 1
  focus (refine Or.inl ⟨by rfl, ?_⟩; intro wq hSw; refine exec_load_box ?_ 33 ?_ ?_ hSw _ Tryd.underlying33 sizeGate; rotate_left 1; rfl; rfl)
  try simp only [Act.put, List.setIfInBounds_toArray, List.set_cons_zero, List.set_cons_succ]
  refine wpAnyH_take (i := 1) (oi := { dst := some _, op := _, type := _, pos := _, after := _, guard := _ }) (v := ?_) rfl (by kernel_rfl) (by kernel_rfl) (by kernel_rfl) (fun _ _ _ h => h) ?_ (by with_reducible assumption) ?_
  rotate_left 1
  focus (refine Or.inl ⟨by rfl, ?_⟩; intro wq hSw; go_simp; try with_reducible rfl)
  try simp only [Act.put, List.setIfInBounds_toArray, List.set_cons_zero, List.set_cons_succ]
  refine wpAnyH_take (i := 3) (oi := { dst := some _, op := _, type := _, pos := _, after := _, guard := _ }) (v := ?_) rfl (by kernel_rfl) (by kernel_rfl) (by kernel_rfl) (fun _ _ _ h => h) ?_ (by with_reducible assumption) ?_
  rotate_left 1
  focus (refine Or.inl ⟨by rfl, ?_⟩; intro wq hSw; go_simp; try with_reducible rfl)
  try simp only [Act.put, List.setIfInBounds_toArray, List.set_cons_zero, List.set_cons_succ]
  refine wpAnyH_take (i := 4) (oi := { dst := some _, op := _, type := _, pos := _, after := _, guard := _ }) (v := ?_) rfl (by kernel_rfl) (by kernel_rfl) (by kernel_rfl) (fun _ _ _ h => h) ?_ (by with_reducible assumption) ?_
  rotate_left 1
  focus (refine Or.inl ⟨by rfl, ?_⟩; intro wq hSw; go_simp; try with_reducible rfl)
  try simp only [Act.put, List.setIfInBounds_toArray, List.set_cons_zero, List.set_cons_succ]
  refine wpAnyH_take (i := 5) (oi := { dst := some _, op := _, type := _, pos := _, after := _, guard := _ }) (v := ?_) rfl (by kernel_rfl) (by kernel_rfl) (by kernel_rfl) (fun _ _ _ h => h) ?_ (by with_reducible assumption) ?_
  rotate_left 1
  focus (refine Or.inl ⟨by rfl, ?_⟩; intro wq hSw; have q1 := hSw.cell 1 _ rfl; go_simp; try with_reducible rfl)
  try simp only [Act.put, List.setIfInBounds_toArray, List.set_cons_zero, List.set_cons_succ]
  refine wpAnyH_ready (rs := [2]) (by kernel_rfl) (by simp) ?_
  refine AllReadyH.cons rfl (fun KA hKA => ?_) AllReadyH.nil
  go_simp
  refine (specOpenOf_any _ de qu wi ti qa bu le pb pc pj pt nw la ea en ec ka kn kc tu fa fn fc ra rn rc tk ac dr E K F R d HT.out).mono ?_
  rintro e v1 ⟨rfl, hb⟩
  replace HA := Lib.hid (HA.out.below hb)
  replace HL := Lib.hid (low_after HL.out hb)
  clear hb hHeld HT
  dsimp only
  refine hKA.out _ _ (HA.out) (fun hHeld => ?_)
  clear hKA
  try simp only [Act.put, List.setIfInBounds_toArray, List.set_cons_zero, List.set_cons_succ]
  refine wpAnyH_take (i := 6) (oi := { dst := some _, op := _, type := _, pos := _, after := _, guard := _ }) (v := ?_) rfl (by kernel_rfl) (by kernel_rfl) (by kernel_rfl) (fun _ _ _ h => h) ?_ (by with_reducible assumption) ?_
  rotate_left 1
  focus (refine Or.inl ⟨by rfl, ?_⟩; intro wq hSw; go_simp; try with_reducible rfl)
  try simp only [Act.put, List.setIfInBounds_toArray, List.set_cons_zero, List.set_cons_succ]
  refine wpAnyH_take (i := 7) (oi := { dst := some _, op := _, type := _, pos := _, after := _, guard := _ }) (v := ?_) rfl (by kernel_rfl) (by kernel_rfl) (by kernel_rfl) (fun _ _ _ h => h) ?_ (by with_reducible assumption) ?_
  rotate_left 1
  focus (refine Or.inl ⟨by rfl, ?_⟩; intro wq hSw; go_simp; try with_reducible rfl)
  try simp only [Act.put, List.setIfInBounds_toArray, List.set_cons_zero, List.set_cons_succ]
  refine wpAnyH_done (by kernel_rfl) ?_ _
  have c2 := HA.out.cell 12 _ rfl
  have c13 := HA.out.cell 13 _ rfl
  cases h7 : decide (qu ≤ (openN d E : Int)) with
  | true =>
    go_wp2_with fail
    go_ret
    exact ⟨(show Ending.returned (Value.int .i64 7) = _ from by unfold subC; rw [HGB.out]; simp only [h2, h3, h4, h5, h6, h7, cond_true, cond_false, Bool.not_true, Bool.not_false, Bool.or_true, Bool.true_or, Bool.or_false, Bool.false_or]), HL.out⟩
  | false =>
  cases h8 : ((en : Int) == 60) with
  | true =>
    go_wp2_with fail
    go_ret
    exact ⟨(show Ending.returned (Value.int .i64 8) = _ from by unfold subC; rw [HGB.out]; simp only [h2, h3, h4, h5, h6, h7, h8, cond_true, cond_false, Bool.not_true, Bool.not_false, Bool.or_true, Bool.true_or, Bool.or_false, Bool.false_or]), HL.out⟩
  | false =>
  cases h9 : (la == 9999) with
  | true =>
    go_wp2_with fail
    go_ret
    exact ⟨(show Ending.returned (Value.int .i64 8) = _ from by unfold subC; rw [HGB.out]; simp only [h2, h3, h4, h5, h6, h7, h8, h9, cond_true, cond_false, Bool.not_true, Bool.not_false, Bool.or_true, Bool.true_or, Bool.or_false, Bool.false_or]), HL.out⟩
  | false =>
  go_wp2_with fail
  go_ret
  exact ⟨(show Ending.returned (Value.int .i64 0) = _ from by unfold subC; rw [HGB.out]; simp only [h2, h3, h4, h5, h6, h7, h8, h9, cond_true, cond_false, Bool.not_true, Bool.not_false, Bool.or_true, Bool.true_or, Bool.or_false, Bool.false_or]), HL.out⟩

/-- a gate and two numbers that were handed back -/
def GEnd2 (w w' : World) (de qu wi ti qa bu le pb pc pj pt nw la tu tk ac dr : Int) (E : List Ev) (K : List Lk) (F R : List Int) (x y : Int) (e : Ending) : Prop :=
  (∃ ea ec ka kc fa fc ra rc vs, e = .returned (.tuple #[.agg #[.int .i64 de, .int .i64 qu, .int .i64 wi, .int .i64 ti, .int .i64 qa, .int .i64 bu, .int .i64 le, .int .i64 pb, .int .i64 pc, .int .i64 pj, .int .i64 pt, .int .i64 nw, .int .i64 la, .slice ea E.length ec, .slice ka K.length kc, .int .i64 tu, .slice fa F.length fc, .slice ra R.length rc, .int .i64 tk, .int .i64 ac, .int .i64 dr], .int .i64 x, .int .i64 y]) ∧ GOwn w.heap.size w' (.slice ea E.length ec) (.slice ka K.length kc) (.slice fa F.length fc) (.slice ra R.length rc) vs E K F R) ∧ Below w.heap.size w w'

set_option maxRecDepth 100000 in
set_option maxHeartbeats 8000000 in
theorem specSubmit_any (w : World) (de qu wi ti qa bu le pb pc pj pt nw la : Int) (ea : Option Addr) (en ec : Nat) (ka : Option Addr) (kn kc : Nat) (tu : Int) (fa : Option Addr) (fn fc : Nat) (ra : Option Addr) (rn rc : Nat) (tk ac dr : Int) (E : List Ev) (K : List Lk) (F R : List Int) (d c : Int) (bd : ByteArray) (t : Int) (h : GIs w.heap.size w ea en ka kn fa fn ra rn E K F R) (hs : Small en kn fn rn K) (hbd : bd.size ≤ maxLen) :
    Calls Tryd.prog 11 #[.agg #[.int .i64 de, .int .i64 qu, .int .i64 wi, .int .i64 ti, .int .i64 qa, .int .i64 bu, .int .i64 le, .int .i64 pb, .int .i64 pc, .int .i64 pj, .int .i64 pt, .int .i64 nw, .int .i64 la, .slice ea en ec, .slice ka kn kc, .int .i64 tu, .slice fa fn fc, .slice ra rn rc, .int .i64 tk, .int .i64 ac, .int .i64 dr], .int .i64 d, .int .i64 c, .string bd, .int .i64 t] w fun e w' => GEnd2 w w' de qu wi ti qa bu le pb pc pj pt nw (sel (subC (gokB de qu wi ti qa bu le pb pc pj pt nw la en kn tu fn rn tk ac dr E K F R) nw de d c bd.size pt t qu en la E == 0) (la + 1) la) tu (sel (subC (gokB de qu wi ti qa bu le pb pc pj pt nw la en kn tu fn rn tk ac dr E K F R) nw de d c bd.size pt t qu en la E == 0) (tk + 1) tk) ac dr (sel (subC (gokB de qu wi ti qa bu le pb pc pj pt nw la en kn tu fn rn tk ac dr E K F R) nw de d c bd.size pt t qu en la E == 0) (E ++ [⟨la + 1, d, c, bd, nw, t, 0, nw, 0⟩]) E) K F R (sel (subC (gokB de qu wi ti qa bu le pb pc pj pt nw la en kn tu fn rn tk ac dr E K F R) nw de d c bd.size pt t qu en la E == 0) (la + 1) 0) (subC (gokB de qu wi ti qa bu le pb pc pj pt nw la en kn tu fn rn tk ac dr E K F R) nw de d c bd.size pt t qu en la E) e := by
  obtain ⟨W0, hW0⟩ : ∃ W, W = (w.alloc (.cells #[.int .i64 de, .int .i64 qu, .int .i64 wi, .int .i64 ti, .int .i64 qa, .int .i64 bu, .int .i64 le, .int .i64 pb, .int .i64 pc, .int .i64 pj, .int .i64 pt, .int .i64 nw, .int .i64 la, .slice ea en ec, .slice ka kn kc, .int .i64 tu, .slice fa fn fc, .slice ra rn rc, .int .i64 tk, .int .i64 ac, .int .i64 dr] 33)).alloc (.cells #[.int .i64 0, .int .i64 0, .int .i64 0, .int .i64 0, .int .i64 0, .int .i64 0, .int .i64 0, .int .i64 0, .int .i64 0, .int .i64 0, .int .i64 0, .int .i64 0, .int .i64 0, .slice none 0 0, .slice none 0 0, .int .i64 0, .slice none 0 0, .slice none 0 0, .int .i64 0, .int .i64 0, .int .i64 0] 33) := ⟨_, rfl⟩
  have hb01 := bOne w (.cells #[.int .i64 de, .int .i64 qu, .int .i64 wi, .int .i64 ti, .int .i64 qa, .int .i64 bu, .int .i64 le, .int .i64 pb, .int .i64 pc, .int .i64 pj, .int .i64 pt, .int .i64 nw, .int .i64 la, .slice ea en ec, .slice ka kn kc, .int .i64 tu, .slice fa fn fc, .slice ra rn rc, .int .i64 tk, .int .i64 ac, .int .i64 dr] 33)
  have hb02 := bOne (w.alloc (.cells #[.int .i64 de, .int .i64 qu, .int .i64 wi, .int .i64 ti, .int .i64 qa, .int .i64 bu, .int .i64 le, .int .i64 pb, .int .i64 pc, .int .i64 pj, .int .i64 pt, .int .i64 nw, .int .i64 la, .slice ea en ec, .slice ka kn kc, .int .i64 tu, .slice fa fn fc, .slice ra rn rc, .int .i64 tk, .int .i64 ac, .int .i64 dr] 33)) (.cells #[.int .i64 0, .int .i64 0, .int .i64 0, .int .i64 0, .int .i64 0, .int .i64 0, .int .i64 0, .int .i64 0, .int .i64 0, .int .i64 0, .int .i64 0, .int .i64 0, .int .i64 0, .slice none 0 0, .slice none 0 0, .int .i64 0, .slice none 0 0, .slice none 0 0, .int .i64 0, .int .i64 0, .int .i64 0] 33)
  have HA : Hid (Box W0 w.heap.size 33 [.int .i64 de, .int .i64 qu, .int .i64 wi, .int .i64 ti, .int .i64 qa, .int .i64 bu, .int .i64 le, .int .i64 pb, .int .i64 pc, .int .i64 pj, .int .i64 pt, .int .i64 nw, .int .i64 la, .slice ea en ec, .slice ka kn kc, .int .i64 tu, .slice fa fn fc, .slice ra rn rc, .int .i64 tk, .int .i64 ac, .int .i64 dr]) := Lib.hid (by rw [hW0]; exact (Box.new w [.int .i64 de, .int .i64 qu, .int .i64 wi, .int .i64 ti, .int .i64 qa, .int .i64 bu, .int .i64 le, .int .i64 pb, .int .i64 pc, .int .i64 pj, .int .i64 pt, .int .i64 nw, .int .i64 la, .slice ea en ec, .slice ka kn kc, .int .i64 tu, .slice fa fn fc, .slice ra rn rc, .int .i64 tk, .int .i64 ac, .int .i64 dr] 33).below hb02)
  have HR : Hid (Box W0 (w.heap.size + 1) 33 [.int .i64 0, .int .i64 0, .int .i64 0, .int .i64 0, .int .i64 0, .int .i64 0, .int .i64 0, .int .i64 0, .int .i64 0, .int .i64 0, .int .i64 0, .int .i64 0, .int .i64 0, .slice none 0 0, .slice none 0 0, .int .i64 0, .slice none 0 0, .slice none 0 0, .int .i64 0, .int .i64 0, .int .i64 0]) := Lib.hid (by
    rw [hW0]
    have := Box.new (w.alloc (.cells #[.int .i64 de, .int .i64 qu, .int .i64 wi, .int .i64 ti, .int .i64 qa, .int .i64 bu, .int .i64 le, .int .i64 pb, .int .i64 pc, .int .i64 pj, .int .i64 pt, .int .i64 nw, .int .i64 la, .slice ea en ec, .slice ka kn kc, .int .i64 tu, .slice fa fn fc, .slice ra rn rc, .int .i64 tk, .int .i64 ac, .int .i64 dr] 33)) [.int .i64 0, .int .i64 0, .int .i64 0, .int .i64 0, .int .i64 0, .int .i64 0, .int .i64 0, .int .i64 0, .int .i64 0, .int .i64 0, .int .i64 0, .int .i64 0, .int .i64 0, .slice none 0 0, .slice none 0 0, .int .i64 0, .slice none 0 0, .slice none 0 0, .int .i64 0, .int .i64 0, .int .i64 0] 33
    simpa using this)
  have HL : Hid (Below w.heap.size w W0) := Lib.hid (by rw [hW0]; exact hb01.trans (hb02.mono (by simp)))
  have HS0 := Lib.hid (show W0.heap.size = w.heap.size + 1 + 1 by rw [hW0]; simp)
  have HWE := Lib.hid hW0
  have HG := Lib.hid h
  have HSM := Lib.hid hs
  have HBD := Lib.hid hbd
  have HT0 := Lib.hid (show GIs W0.heap.size W0 ea en ka kn fa fn ra rn E K F R from h.here HL.out)
  clear hW0 hb01 hb02 h hs hbd
  go_enter Tryd.func11, Tryd.ntmps11
  go_upto_region 1 with fail
  rw [← HWE.out]
  clear HWE
  obtain ⟨B1, hB1⟩ : ∃ B, B = W0.heap.size := ⟨_, rfl⟩
  have HB1 := Lib.hid (show w.heap.size + 1 < B1 by rw [hB1, HS0.out]; omega)
  go_wp2_with (first | (refine wpList_load_box rfl _ 33 rfl rfl HA.out _ Tryd.underlying33 sizeGate ?_) | fail)
  refine (specGCopy_any _ de qu wi ti qa bu le pb pc pj pt nw la ea en ec ka kn kc tu fa fn fc ra rn rc tk ac dr E K F R HT0.out HSM.out).mono ?_
  rintro e w1 ⟨⟨ea1, ec1, ka1, kc1, fa1, fc1, ra1, rc1, vs, rfl, ho⟩, hb⟩
  rw [← hB1] at ho
  obtain ⟨lE, hlE⟩ : ∃ l, l = E.length := ⟨_, rfl⟩
  obtain ⟨lK, hlK⟩ : ∃ l, l = K.length := ⟨_, rfl⟩
  obtain ⟨lF, hlF⟩ : ∃ l, l = F.length := ⟨_, rfl⟩
  obtain ⟨lR, hlR⟩ : ∃ l, l = R.length := ⟨_, rfl⟩
  rw [← hlE, ← hlK, ← hlF, ← hlR] at ho ⊢
  have HlE := Lib.hid hlE
  have HlK := Lib.hid hlK
  have HlF := Lib.hid hlF
  have HlR := Lib.hid hlR
  have HO := Lib.hid ho
  have HBW := Lib.hid (show B1 ≤ w1.heap.size by rw [hB1]; exact hb.size)
  replace HA := Lib.hid (HA.out.below hb)
  replace HR := Lib.hid (HR.out.below hb)
  replace HL := Lib.hid (low_after HL.out hb)
  clear hb ho hlE hlK hlF hlR hB1 HS0 HT0
  obtain ⟨k3, hk3⟩ : ∃ k, k = w1.heap.size := ⟨_, rfl⟩
  go_upto_region 2 with (first | (refine wpList_store_box rfl _ _ 33 rfl rfl [.int .i64 de, .int .i64 qu, .int .i64 wi, .int .i64 ti, .int .i64 qa, .int .i64 bu, .int .i64 le, .int .i64 pb, .int .i64 pc, .int .i64 pj, .int .i64 pt, .int .i64 nw, .int .i64 la, .slice ea1 lE ec1, .slice ka1 lK kc1, .int .i64 tu, .slice fa1 lF fc1, .slice ra1 lR rc1, .int .i64 tk, .int .i64 ac, .int .i64 dr] rfl (Box.new _ [.int .i64 0, .int .i64 0, .int .i64 0, .int .i64 0, .int .i64 0, .int .i64 0, .int .i64 0, .int .i64 0, .int .i64 0, .int .i64 0, .int .i64 0, .int .i64 0, .int .i64 0, .slice none 0 0, .slice none 0 0, .int .i64 0, .slice none 0 0, .slice none 0 0, .int .i64 0, .int .i64 0, .int .i64 0] 33) sizeGate rfl rfl ?_; intro V0 hXb hgV hlV; have HX := Lib.hid hXb; have HBV := Lib.hid (hlV w1.heap.size w1 (Nat.le_refl _) (bOne w1 _)); clear hXb hgV hlV) | fail)
  simp only [Act.put]
  rw [← hk3] at HX ⊢
  have HK3 := Lib.hid (show B1 ≤ k3 by rw [hk3]; exact HBW.out)
  clear hk3
  replace HA := Lib.hid (HA.out.below HBV.out)
  replace HR := Lib.hid (HR.out.below HBV.out)
  replace HL := Lib.hid (low_after HL.out HBV.out)
  replace HO := Lib.hid (HO.out.below HBV.out)
  replace HBW := Lib.hid (Nat.le_trans HBW.out HBV.out.size)
  clear HBV
  go_wp2_with (first | (refine wpList_load_box rfl _ 33 rfl rfl HA.out _ Tryd.underlying33 sizeGate ?_) | fail)
  refine (specCode_any _ de qu wi ti qa bu le pb pc pj pt nw la ea en ec ka kn kc tu fa fn fc ra rn rc tk ac dr E K F R d c bd t (HG.out.here HL.out) HBD.out).mono ?_
  rintro e w2 ⟨rfl, hb⟩
  obtain ⟨z, hz⟩ : ∃ z, z = subC (gokB de qu wi ti qa bu le pb pc pj pt nw la en kn tu fn rn tk ac dr E K F R) nw de d c bd.size pt t qu en la E := ⟨_, rfl⟩
  rw [← hz]
  have HZ := Lib.hid hz
  replace HA := Lib.hid (HA.out.below hb)
  replace HR := Lib.hid (HR.out.below hb)
  replace HX := Lib.hid (HX.out.below hb)
  replace HO := Lib.hid (HO.out.below hb)
  replace HL := Lib.hid (low_after HL.out hb)
  replace HBW := Lib.hid (Nat.le_trans HBW.out hb.size)
  clear hb hz
  cases h0 : (z == 0) with
  | false =>
    have hne : (z != 0) = true := by simp at h0 ⊢; exact h0
    have HS0 := Lib.hid (show (subC (gokB de qu wi ti qa bu le pb pc pj pt nw la en kn tu fn rn tk ac dr E K F R) nw de d c bd.size pt t qu en la E == 0) = false from by rw [← HZ.out]; exact h0)
    go_wp2_with (first | (refine wpList_load_box rfl _ 33 rfl rfl HX.out _ Tryd.underlying33 sizeGate ?_) | (refine wpList_store_box rfl _ _ 33 rfl rfl [.int .i64 de, .int .i64 qu, .int .i64 wi, .int .i64 ti, .int .i64 qa, .int .i64 bu, .int .i64 le, .int .i64 pb, .int .i64 pc, .int .i64 pj, .int .i64 pt, .int .i64 nw, .int .i64 la, .slice ea1 lE ec1, .slice ka1 lK kc1, .int .i64 tu, .slice fa1 lF fc1, .slice ra1 lR rc1, .int .i64 tk, .int .i64 ac, .int .i64 dr] rfl HR.out sizeGate rfl rfl ?_; intro V hXb hgV hlV) | fail)
    rw [HS0.out, sel_no, sel_no, sel_no, sel_no]
    exact bodyPost_ret (v := .tuple #[.agg #[.int .i64 de, .int .i64 qu, .int .i64 wi, .int .i64 ti, .int .i64 qa, .int .i64 bu, .int .i64 le, .int .i64 pb, .int .i64 pc, .int .i64 pj, .int .i64 pt, .int .i64 nw, .int .i64 la, .slice ea1 lE ec1, .slice ka1 lK kc1, .int .i64 tu, .slice fa1 lF fc1, .slice ra1 lR rc1, .int .i64 tk, .int .i64 ac, .int .i64 dr], .int .i64 0, .int .i64 z]) (results_box3 _ Tryd.results11 rfl rfl rfl hXb _ Tryd.underlying33 sizeGate) rfl ⟨⟨ea1, ec1, ka1, kc1, fa1, fc1, ra1, rc1, vs, by rw [← HlE.out, ← HlK.out, ← HlF.out, ← HlR.out, HZ.out], by rw [← HlE.out, ← HlK.out, ← HlF.out, ← HlR.out]; exact (HO.out.low hgV (by have := HB1.out; omega)).base (by have := HB1.out; omega)⟩, hlV w.heap.size w (by omega) HL.out⟩
  | true =>
    have hz0 : z = 0 := by simpa using h0
    subst hz0
    have HS0 := Lib.hid (show (subC (gokB de qu wi ti qa bu le pb pc pj pt nw la en kn tu fn rn tk ac dr E K F R) nw de d c bd.size pt t qu en la E == 0) = true from by rw [← HZ.out]; rfl)
    have HP := Lib.hid (gokB_true (subC_ok HZ.out.symm))
    have hla : 0 ≤ la ∧ la ≤ 9999 := HP.out.2.2.1
    have htk : 0 ≤ tk ∧ tk ≤ 9999 := HP.out.2.2.2.2.2.2.2.1
    have hen : en ≤ 60 := HP.out.2.2.2.2.1.1
    have hw1 : IntKind.i64.wrap (la + 1) = la + 1 := IntWalk.i64_in _ (by omega)
    have hw2 : IntKind.i64.wrap (tk + 1) = tk + 1 := IntWalk.i64_in _ (by omega)
    have o12 := HX.out.cell 12 _ rfl
    have f12 := HX.out.frozen 12
    clear h0
    go_upto_region 6 with fail
    obtain ⟨V5, hV⟩ : ∃ V, V = w2.setCell ⟨k3, 12, none⟩ (.int .i64 (la + 1)) := ⟨_, rfl⟩
    rw [← hV]
    have hg : w2.grownBy V5 (some k3) := by rw [hV]; exact store_grown [.int .i64 (la + 1)] 12 _
    have HXn := Lib.hid (show Box V5 k3 33 [.int .i64 de, .int .i64 qu, .int .i64 wi, .int .i64 ti, .int .i64 qa, .int .i64 bu, .int .i64 le, .int .i64 pb, .int .i64 pc, .int .i64 pj, .int .i64 pt, .int .i64 nw, .int .i64 (la + 1), .slice ea1 lE ec1, .slice ka1 lK kc1, .int .i64 tu, .slice fa1 lF fc1, .slice ra1 lR rc1, .int .i64 tk, .int .i64 ac, .int .i64 dr] by rw [hV]; exact Box.store [.int .i64 (la + 1)] 12 _ _ HX.out)
    replace HL := Lib.hid (show Below w.heap.size w V5 by rw [hV]; exact store_below (by have := HK3.out; have := HB1.out; omega) [.int .i64 (la + 1)] 12 _ _ HL.out)
    replace HR := Lib.hid (HR.out.grown hg (by have := HK3.out; have := HB1.out; simp; omega))
    replace HA := Lib.hid (HA.out.grown hg (by have := HK3.out; have := HB1.out; simp; omega))
    replace HO := Lib.hid (HO.out.offbox HX.out hg)
    replace HBW := Lib.hid (Nat.le_trans HBW.out hg.size)
    replace HX := HXn
    clear hV hg HXn
    clear o12 f12
    have o18 := HX.out.cell 18 _ rfl
    have f18 := HX.out.frozen 18
    go_upto_region 7 with fail
    obtain ⟨V6, hV⟩ : ∃ V, V = V5.setCell ⟨k3, 18, none⟩ (.int .i64 (tk + 1)) := ⟨_, rfl⟩
    rw [← hV]
    have hg : V5.grownBy V6 (some k3) := by rw [hV]; exact store_grown [.int .i64 (tk + 1)] 18 _
    have HXn := Lib.hid (show Box V6 k3 33 [.int .i64 de, .int .i64 qu, .int .i64 wi, .int .i64 ti, .int .i64 qa, .int .i64 bu, .int .i64 le, .int .i64 pb, .int .i64 pc, .int .i64 pj, .int .i64 pt, .int .i64 nw, .int .i64 (la + 1), .slice ea1 lE ec1, .slice ka1 lK kc1, .int .i64 tu, .slice fa1 lF fc1, .slice ra1 lR rc1, .int .i64 (tk + 1), .int .i64 ac, .int .i64 dr] by rw [hV]; exact Box.store [.int .i64 (tk + 1)] 18 _ _ HX.out)
    replace HL := Lib.hid (show Below w.heap.size w V6 by rw [hV]; exact store_below (by have := HK3.out; have := HB1.out; omega) [.int .i64 (tk + 1)] 18 _ _ HL.out)
    replace HR := Lib.hid (HR.out.grown hg (by have := HK3.out; have := HB1.out; simp; omega))
    replace HA := Lib.hid (HA.out.grown hg (by have := HK3.out; have := HB1.out; simp; omega))
    replace HO := Lib.hid (HO.out.offbox HX.out hg)
    replace HBW := Lib.hid (Nat.le_trans HBW.out hg.size)
    replace HX := HXn
    clear hV hg HXn
    clear o18 f18 hw1 hw2
    have o13 := HX.out.cell 13 _ rfl
    have o12 := HX.out.cell 12 _ rfl
    have c11 := HA.out.cell 11 _ rfl
    have HEN := Lib.hid (show E.length ≤ 60 by have := HG.out.ev.row.hlen; omega)
    clear hla htk hen
    have hb := bOne V6 (.cells #[.int .i64 (la + 1), .int .i64 d, .int .i64 c, .string bd, .int .i64 nw, .int .i64 t, .int .i64 0, .int .i64 nw, .int .i64 0] 55)
    have HT1 := Lib.hid (ris_ev V6 55 ⟨la + 1, d, c, bd, nw, t, 0, nw, 0⟩)
    have HAP := Lib.hid (app_row (T := 29) (ty := 29) (cap := 1) (len := 1) evS Tryd.underlying29 infoEvent evZ (by decide) (by omega) (HO.out.below hb).evO HT1.out (flat_ev_one _) (by have := HEN.out; omega) (Nat.le_trans HBW.out hb.size))
    have HBB := Lib.hid hb
    clear hb
    go_upto_region 8 with (first | (at_builtin; refine Lnk.wpList_append_run rfl _ _ 29 rfl _ _ rfl rfl HAP.out ?_; intro v' w6 happ; obtain ⟨ea2, ec2, rfl⟩ := ROwn.shapeL happ.1 (lE + 1) (by rw [List.length_append, ← HlE.out]; rfl); have hkb : ∀ q, (Value.slice ea1 lE ec1).ownBlock = some q → B1 ≤ q := fun q hq => (World.ownsRow.lt HO.out.evO q hq).1; have hne : ∀ q, q < B1 → some q ≠ (Value.slice ea1 lE ec1).ownBlock := fun q hq e => (by have := hkb q e.symm; omega); have hgz := happ.2.1; have hX3 : (Value.slice ea1 lE ec1).ownBlock = none ∨ (Value.slice ea1 lE ec1).ownBlock ≠ some k3 := (evR_at.2 HO.out.evO).offbox HX.out ne_eg; have HX7 := Lib.hid ((HX.out.below HBB.out).grown hgz (by rcases hX3 with h | h; (rw [h]; simp); exact Ne.symm h)); have HA7 := Lib.hid ((HA.out.below HBB.out).grown hgz (hne _ (by have := HB1.out; omega))); have HR7 := Lib.hid ((HR.out.below HBB.out).grown hgz (hne _ (by have := HB1.out; omega))); have HL7 := Lib.hid ((low_after HL.out HBB.out).grown hgz (low_after HL.out HBB.out).size (fun q hq => by have := hkb q hq; have := HB1.out; omega)); have HO7 := Lib.hid ((HO.out.below HBB.out).setEv hgz happ.1 happ.2.2 (by intro e he; rcases List.mem_append.1 he with he | he; exact HO.out.body e he; (rw [List.mem_singleton.1 he]; exact HBD.out))); have HBW7 := Lib.hid (Nat.le_trans (Nat.le_trans HBW.out HBB.out.size) hgz.size); have p13 := HX7.out.cell 13 _ rfl; have g13 := HX7.out.frozen 13; clear happ hkb hne hgz hX3 o13) | fail)
    clear o12 c11
    replace HX := HX7
    replace HA := HA7
    replace HR := HR7
    replace HL := HL7
    replace HO := HO7
    replace HBW := HBW7
    clear p13 g13 HX7 HA7 HR7 HL7 HO7 HBW7 HAP HT1 HBB
    obtain ⟨V7, hV⟩ : ∃ V, V = w6.setCell ⟨k3, 13, none⟩ (.slice ea2 (lE + 1) ec2) := ⟨_, rfl⟩
    rw [← hV]
    have hg : w6.grownBy V7 (some k3) := by rw [hV]; exact store_grown [.slice ea2 (lE + 1) ec2] 13 _
    have HXn := Lib.hid (show Box V7 k3 33 [.int .i64 de, .int .i64 qu, .int .i64 wi, .int .i64 ti, .int .i64 qa, .int .i64 bu, .int .i64 le, .int .i64 pb, .int .i64 pc, .int .i64 pj, .int .i64 pt, .int .i64 nw, .int .i64 (la + 1), .slice ea2 (lE + 1) ec2, .slice ka1 lK kc1, .int .i64 tu, .slice fa1 lF fc1, .slice ra1 lR rc1, .int .i64 (tk + 1), .int .i64 ac, .int .i64 dr] by rw [hV]; exact Box.store [.slice ea2 (lE + 1) ec2] 13 _ _ HX.out)
    replace HL := Lib.hid (show Below w.heap.size w V7 by rw [hV]; exact store_below (by have := HK3.out; have := HB1.out; omega) [.slice ea2 (lE + 1) ec2] 13 _ _ HL.out)
    replace HR := Lib.hid (HR.out.grown hg (by have := HK3.out; have := HB1.out; simp; omega))
    replace HA := Lib.hid (HA.out.grown hg (by have := HK3.out; have := HB1.out; simp; omega))
    replace HO := Lib.hid (HO.out.offbox HX.out hg)
    replace HBW := Lib.hid (Nat.le_trans HBW.out hg.size)
    replace HX := HXn
    clear hV hg HXn
    go_upto_region 8 with fail
    have HQ := Lib.hid (below_drew' (Below.refl V7.heap.size V7))
    refine wp_region_held_drew (S := fun w' => (Box w' k3 33 [.int .i64 de, .int .i64 qu, .int .i64 wi, .int .i64 ti, .int .i64 qa, .int .i64 bu, .int .i64 le, .int .i64 pb, .int .i64 pc, .int .i64 pj, .int .i64 pt, .int .i64 nw, .int .i64 (la + 1), .slice ea2 (lE + 1) ec2, .slice ka1 lK kc1, .int .i64 tu, .slice fa1 lF fc1, .slice ra1 lR rc1, .int .i64 (tk + 1), .int .i64 ac, .int .i64 dr])) (by kernel_rfl) (HX.out.below HQ.out) (fun hHeld => ?_)
    replace HO := Lib.hid (HO.out.below HQ.out)
    replace HR := Lib.hid (HR.out.below HQ.out)
    replace HL := Lib.hid (low_after HL.out HQ.out)
    clear HQ HX HA
    refine wpAnyH_take (i := 0) (oi := { dst := some _, op := _, type := _, pos := _, after := _, guard := _ }) (v := ?_) rfl (by kernel_rfl) (by kernel_rfl) (by kernel_rfl) (fun _ _ _ h => h) ?_ (by with_reducible assumption) ?_
    rotate_left 1
    focus (refine Or.inl ⟨by rfl, ?_⟩; intro wq hSw; refine exec_load_box ?_ 33 ?_ ?_ hSw _ Tryd.underlying33 sizeGate; rotate_left 1; rfl; rfl)
    try simp only [Act.put, List.setIfInBounds_toArray, List.set_cons_zero, List.set_cons_succ]
    refine wpAnyH_take (i := 1) (oi := { dst := some _, op := _, type := _, pos := _, after := _, guard := _ }) (v := ?_) rfl (by kernel_rfl) (by kernel_rfl) (by kernel_rfl) (fun _ _ _ h => h) ?_ (by with_reducible assumption) ?_
    rotate_left 1
    focus (refine Or.inl ⟨by rfl, ?_⟩; intro wq hSw; go_simp; try with_reducible rfl)
    try simp only [Act.put, List.setIfInBounds_toArray, List.set_cons_zero, List.set_cons_succ]
    refine wpAnyH_take (i := 2) (oi := { dst := some _, op := _, type := _, pos := _, after := _, guard := _ }) (v := ?_) rfl (by kernel_rfl) (by kernel_rfl) (by kernel_rfl) (fun _ _ _ h => h) ?_ (by with_reducible assumption) ?_
    rotate_left 1
    focus (refine Or.inl ⟨by rfl, ?_⟩; intro wq hSw; have q0 := hSw.cell 12 _ rfl; go_simp; try with_reducible rfl)
    try simp only [Act.put, List.setIfInBounds_toArray, List.set_cons_zero, List.set_cons_succ]
    refine wpAnyH_ready (rs := [3]) (by kernel_rfl) (by simp) ?_
    refine AllReadyH.cons rfl (fun KA hKA => ?_) AllReadyH.nil
    refine step_store_box rfl _ _ 33 rfl rfl [.int .i64 de, .int .i64 qu, .int .i64 wi, .int .i64 ti, .int .i64 qa, .int .i64 bu, .int .i64 le, .int .i64 pb, .int .i64 pc, .int .i64 pj, .int .i64 pt, .int .i64 nw, .int .i64 (la + 1), .slice ea2 (lE + 1) ec2, .slice ka1 lK kc1, .int .i64 tu, .slice fa1 lF fc1, .slice ra1 lR rc1, .int .i64 (tk + 1), .int .i64 ac, .int .i64 dr] rfl HR.out sizeGate rfl rfl ?_
    intro V hXb hgV hlV
    refine hKA.out _ _ (hHeld.grown hgV (by have := HK3.out; have := HB1.out; simp; omega)) (fun hHeld => ?_)
    clear hKA
    try simp only [Act.put, List.setIfInBounds_toArray, List.set_cons_zero, List.set_cons_succ]
    refine wpAnyH_take (i := 4) (oi := { dst := some _, op := _, type := _, pos := _, after := _, guard := _ }) (v := ?_) rfl (by kernel_rfl) (by kernel_rfl) (by kernel_rfl) (fun _ _ _ h => h) ?_ (by with_reducible assumption) ?_
    rotate_left 1
    focus (refine Or.inl ⟨by rfl, ?_⟩; intro wq hSw; go_simp; try with_reducible rfl)
    try simp only [Act.put, List.setIfInBounds_toArray, List.set_cons_zero, List.set_cons_succ]
    refine wpAnyH_take (i := 5) (oi := { dst := some _, op := _, type := _, pos := _, after := _, guard := _ }) (v := ?_) rfl (by kernel_rfl) (by kernel_rfl) (by kernel_rfl) (fun _ _ _ h => h) ?_ (by with_reducible assumption) ?_
    rotate_left 1
    focus (refine Or.inl ⟨by rfl, ?_⟩; intro wq hSw; go_simp; try with_reducible rfl)
    try simp only [Act.put, List.setIfInBounds_toArray, List.set_cons_zero, List.set_cons_succ]
    refine wpAnyH_done (by kernel_rfl) ?_ _
    go_wp2_with fail
    rw [HS0.out, sel_yes, sel_yes, sel_yes, sel_yes]
    have hln : (E ++ [(⟨la + 1, d, c, bd, nw, t, 0, nw, 0⟩ : Ev)]).length = lE + 1 := by rw [List.length_append, ← HlE.out]; rfl
    exact bodyPost_ret (v := .tuple #[.agg #[.int .i64 de, .int .i64 qu, .int .i64 wi, .int .i64 ti, .int .i64 qa, .int .i64 bu, .int .i64 le, .int .i64 pb, .int .i64 pc, .int .i64 pj, .int .i64 pt, .int .i64 nw, .int .i64 (la + 1), .slice ea2 (lE + 1) ec2, .slice ka1 lK kc1, .int .i64 tu, .slice fa1 lF fc1, .slice ra1 lR rc1, .int .i64 (tk + 1), .int .i64 ac, .int .i64 dr], .int .i64 (la + 1), .int .i64 0]) (results_box3 _ Tryd.results11 rfl rfl rfl hXb _ Tryd.underlying33 sizeGate) rfl ⟨⟨ea2, ec2, ka1, kc1, fa1, fc1, ra1, rc1, vs, by rw [hln, ← HlK.out, ← HlF.out, ← HlR.out, ← HZ.out], by rw [hln, ← HlK.out, ← HlF.out, ← HlR.out]; exact (HO.out.low hgV (by have := HB1.out; omega)).base (by have := HB1.out; omega)⟩, hlV w.heap.size w (by omega) HL.out⟩

end Go.Proofs.YtkndpkingmemoaaDoor.Gat
