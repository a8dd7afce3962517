/-
  Boxes: a block of cells that are told one by one; stored into; kept.
-/
import Derived.Test.YtecfomaapomncaaGtA
namespace Go.Proofs.Ytecfomaapomncaa.Gat
open Go.RowKit
set_option linter.unusedVariables false

/-- block k holds just these cells -/
def Box (w : World) (k : Nat) (T : TypeId) (l : List Value) : Prop := w.heap[k]? = some (.cells l.toArray T (0, 0))
section
variable {w w' : World} {k : Nat} {T : TypeId} {l : List Value}
theorem Box.lt (h : Box w k T l) : k < w.heap.size := lt_of_block h
theorem Box.new (w : World) (l : List Value) (T : TypeId) : Box (w.alloc (.cells l.toArray T)) w.heap.size T l := heap_alloc_new w _
theorem Box.low {B : Nat} (h : Box w k T l) (hb : Below B w w') (hk : k < B) : Box w' k T l := (hb.block k hk).trans h
theorem Box.below (h : Box w k T l) (hb : Below w.heap.size w w') : Box w' k T l := h.low hb h.lt
theorem Box.grown {r : Option Nat} (h : Box w k T l) (hg : w.grownBy w' r) (hr : some k ≠ r) : Box w' k T l := (hg.block k h.lt hr).trans h
theorem Box.cell (h : Box w k T l) (i : Nat) (u : Value) (hu : l[i]? = some u) : w.cell? ⟨k, i, none⟩ = some u := by
  unfold Box at h
  rw [cell_of_row w k i _ T (0, 0) h, ← hu]
  simp
theorem Box.frozen (h : Box w k T l) (i : Nat) : w.frozen? ⟨k, i, none⟩ = false := frozen_of_row w k i _ T h
theorem Box.store : ∀ (vs : List Value) (o : Nat) (w : World) (l : List Value), Box w k T l → Box (storeMany w k o vs) k T (setMany l o vs)
  | [], o, w, l, h => h
  | v :: vs, o, w, l, h => by
    refine Box.store vs (o + 1) _ _ ?_
    have h1 := heap_setCell_same w k o l.toArray T v h
    unfold Box
    rw [h1]
    simp
theorem setMany_all (vs l : List Value) (h : vs.length = l.length) : setMany l 0 vs = vs := by
  have := setMany_mid vs l [] [] h.symm
  simpa using this
theorem Box.whole (h : Box w k T l) (vs : List Value) (hl : vs.length = l.length) : Box (storeMany w k 0 vs) k T vs := by
  have := Box.store vs 0 w l h
  rwa [setMany_all vs l hl] at this
theorem store_grown {k : Nat} : ∀ (vs : List Value) (o : Nat) (w : World), w.grownBy (storeMany w k o vs) (some k)
  | [], o, w => ⟨rfl, rfl, rfl, Nat.le_refl _, fun _ _ _ => rfl⟩
  | v :: vs, o, w => by
    have h1 : w.grownBy (w.setCell ⟨k, o, none⟩ v) (some k) := ⟨rfl, rfl, rfl, by simp, fun j _ hj => heap_setCell_other w ⟨k, o, none⟩ j v (fun e => hj (by simp [e]))⟩
    exact h1.trans (store_grown vs (o + 1) _)
theorem store_size {k : Nat} : ∀ (vs : List Value) (o : Nat) (w : World), (storeMany w k o vs).heap.size = w.heap.size
  | [], o, w => rfl
  | v :: vs, o, w => by
    rw [storeMany, store_size vs (o + 1)]
    simp
theorem store_below {B k : Nat} (hk : B ≤ k) : ∀ (vs : List Value) (o : Nat) (a w : World), Below B a w → Below B a (storeMany w k o vs)
  | [], o, a, w, h => h
  | v :: vs, o, a, w, h => store_below hk vs (o + 1) a _ (h.setCell hk _)
/-- a box read whole -/
theorem box_load {P : Program} {w : World} {k : Nat} {T : TypeId} {l : List Value} (h : Box w k T l) (n : Nat) (hn : l.length = n) : (loadCellsFrom ⟨k, 0, none⟩ 0 n #[]).run P w = .ok l.toArray w := by
  subst hn
  have := run_loadCells_list (P := P) w ⟨k, 0, none⟩ l (fun j v hv => by
    have hadd : (⟨k, 0, none⟩ : Addr).add j = ⟨k, j, none⟩ := by unfold Addr.add; split <;> simp_all
    rw [hadd]
    exact h.cell j v hv)
  simpa [loadCells] using this
theorem storeMany_run {P : Program} {k : Nat} {T : TypeId} : ∀ (vs : List Value) (o : Nat) (w : World) (l : List Value), Box w k T l → o + vs.length ≤ l.length → (∀ v ∈ vs, v.oneCell' = true) → (storeCells ⟨k, 0, none⟩ vs o).run P w = .ok () (storeMany w k o vs)
  | [], o, w, l, h, _, _ => rfl
  | v :: vs, o, w, l, h, hl, h1 => by
    have hadd : (⟨k, 0, none⟩ : Addr).add o = ⟨k, o, none⟩ := by unfold Addr.add; split <;> simp_all
    have hlt : o < l.length := by simp at hl; omega
    have hc := h.cell o l[o] (List.getElem?_eq_getElem hlt)
    have hst : (store ((⟨k, 0, none⟩ : Addr).add o) v).run P w = .ok () (w.setCell ⟨k, o, none⟩ v) := by
      rw [hadd, run_store P w _ v _ (h1 v (by simp)), hc]
      simp [h.frozen o]
    have ih := storeMany_run (P := P) vs (o + 1) (w.setCell ⟨k, o, none⟩ v) (l.set o v) (Box.store [v] o _ _ h) (by simp at hl ⊢; omega) (fun x hx => h1 x (by simp [hx]))
    simp only [storeCells, Sem.run_bind, hst, Result.andThen_ok]
    exact ih
/-- a box written whole -/
theorem box_store {P : Program} {w : World} {k : Nat} {T : TypeId} {l : List Value} (h : Box w k T l) (vs : List Value) (hl : vs.length = l.length) (h1 : ∀ v ∈ vs, v.oneCell' = true) : (storeCells ⟨k, 0, none⟩ vs 0).run P w = .ok () (storeMany w k 0 vs) :=
  storeMany_run vs 0 w l h (by omega) h1
end
section
variable {P : Program} {w : World} {ops : Array Oper} {rest : List Oper} {o : Oper} {a : Act} {Q : Exit → Act → World → Prop} {k : Nat} {T : TypeId} {l : List Value}
/-- a struct read whole, at the operation -/
theorem wpList_load_box (hg : o.guard = none) (p : Operand) (t : TypeId) (hop : o.op = .load t p) (hs : a.eval p = .pointer (some ⟨k, 0, none⟩)) (hb : Box w k T l) (fs : Array Field) (hu : P.underlying t = some (.struct fs)) (hi : (P.info? t).map (·.size) = some l.length)
    (h : wpList P ops Q rest (a.put o.dst (.agg l.toArray)) w) : wpList P ops Q (o :: rest) a w := by
  refine wpList_plain hg fun K' hK' => ?_
  have hrun : (Instr.loadAt t (.pointer (some ⟨k, 0, none⟩))).run P w = .ok (.agg l.toArray) w := by
    simp only [Instr.loadAt, Instr.sureAddr, Sem.run_bind, Sem.run_pure, Result.andThen]
    exact run_loadVar_row w k T t l.toArray (0, 0) _ hb hu rfl (by simpa using hi)
  unfold Oper.wp
  simp only [execOp, hop, hs, Sem.run_bind, Sem.run_pure, hrun, Result.andThen_ok]
  exact hK' _ _ h
/-- a struct written whole, at the operation -/
theorem wpList_store_box (hg : o.guard = none) (p x : Operand) (t : TypeId) (hop : o.op = .store t p x) (hs : a.eval p = .pointer (some ⟨k, 0, none⟩)) (vs : List Value) (hx : a.eval x = .agg vs.toArray) (hb : Box w k T l) (hi : (P.info? t).map (·.size) = some vs.length) (hl : vs.length = l.length) (h1 : vs.all (·.oneCell') = true)
    (h : ∀ w', Box w' k T vs → w.grownBy w' (some k) → (∀ (B : Nat) (a0 : World), B ≤ k → Below B a0 w → Below B a0 w') → wpList P ops Q rest (a.put o.dst undef) w') : wpList P ops Q (o :: rest) a w := by
  refine wpList_plain hg fun K' hK' => ?_
  have hrun : (Instr.storeAt t (.pointer (some ⟨k, 0, none⟩)) (.agg vs.toArray)).run P w = .ok () (storeMany w k 0 vs) := by
    simp only [Instr.storeAt, Instr.sureAddr, Sem.run_bind, Sem.run_pure, Result.andThen]
    cases hq : P.info? t with
    | none => simp [hq] at hi
    | some i =>
      have hsz : i.size = vs.length := by simpa [hq] using hi
      have := box_store (P := P) hb vs hl (fun v hv => List.all_eq_true.1 h1 v hv)
      simpa [storeVar, sizeOf, typeInfo, hq, Value.cells, hsz] using this
  unfold Oper.wp
  simp only [execOp, hop, hs, hx, Sem.run_bind, Sem.run_pure, hrun, Result.andThen_ok]
  exact hK' _ _ (h _ (hb.whole vs hl) (store_grown vs 0 w) (fun B a0 hB hw => store_below hB vs 0 a0 w hw))
/-- a make, in a drawn region -/
theorem step_make {K : Act → World → Prop} {E : Prop} (hg : o.guard = none) (x y : Operand) (t : TypeId) (hop : o.op = .makeSlice t x y) (vx vy : Value) (hx : a.eval x = vx) (hy : a.eval y = vy) {R : Value → World → Prop}
    (hr : ∃ v' w', (Instr.makeSlice t vx vy).run P w = .ok v' w' ∧ R v' w') (h : ∀ v' w', R v' w' → K (a.put o.dst v') w') : if Region.wanted o (yielded ops a.tmps) = true then Oper.wp P o a w K Q else E := by
  obtain ⟨v', w', hrun, h2⟩ := hr
  rw [if_pos (by simp [Region.wanted, hg])]
  unfold Oper.wp
  simp only [execOp, hop, hx, hy, Sem.run_bind, Sem.run_pure, hrun, Result.andThen_ok]
  exact h v' w' h2
/-- a struct written whole, in a drawn region -/
theorem step_store_box {K : Act → World → Prop} {E : Prop} (hg : o.guard = none) (p x : Operand) (t : TypeId) (hop : o.op = .store t p x) (hs : a.eval p = .pointer (some ⟨k, 0, none⟩)) (vs : List Value) (hx : a.eval x = .agg vs.toArray) (hb : Box w k T l) (hi : (P.info? t).map (·.size) = some vs.length) (hl : vs.length = l.length) (h1 : vs.all (·.oneCell') = true)
    (h : ∀ w', Box w' k T vs → w.grownBy w' (some k) → (∀ (B : Nat) (a0 : World), B ≤ k → Below B a0 w → Below B a0 w') → K (a.put o.dst undef) w') : if Region.wanted o (yielded ops a.tmps) = true then Oper.wp P o a w K Q else E := by
  rw [if_pos (by simp [Region.wanted, hg])]
  have hrun : (Instr.storeAt t (.pointer (some ⟨k, 0, none⟩)) (.agg vs.toArray)).run P w = .ok () (storeMany w k 0 vs) := by
    simp only [Instr.storeAt, Instr.sureAddr, Sem.run_bind, Sem.run_pure, Result.andThen]
    cases hq : P.info? t with
    | none => simp [hq] at hi
    | some i =>
      have hsz : i.size = vs.length := by simpa [hq] using hi
      have := box_store (P := P) hb vs hl (fun v hv => List.all_eq_true.1 h1 v hv)
      simpa [storeVar, sizeOf, typeInfo, hq, Value.cells, hsz] using this
  unfold Oper.wp
  simp only [execOp, hop, hs, hx, Sem.run_bind, Sem.run_pure, hrun, Result.andThen_ok]
  exact h _ (hb.whole vs hl) (store_grown vs 0 w) (fun B a0 hB hw => store_below hB vs 0 a0 w hw)
theorem exec_load_box {ρ : Operand → Value} (p : Operand) (t : TypeId) (hop : o.op = .load t p) (hs : ρ p = .pointer (some ⟨k, 0, none⟩)) (hb : Box w k T l) (fs : Array Field) (hu : P.underlying t = some (.struct fs)) (hi : (P.info? t).map (·.size) = some l.length) :
    (execOp ρ o).run P w = .ok (.value (.agg l.toArray)) w := by
  have hrun : (Instr.loadAt t (.pointer (some ⟨k, 0, none⟩))).run P w = .ok (.agg l.toArray) w := by
    simp only [Instr.loadAt, Instr.sureAddr, Sem.run_bind, Sem.run_pure, Result.andThen]
    exact run_loadVar_row w k T t l.toArray (0, 0) _ hb hu rfl (by simpa using hi)
  simp only [execOp, hop, hs, Sem.run_bind, Sem.run_pure, hrun, Result.andThen_ok]
/-- a struct handed back out of its box -/
theorem results_box {P : Program} {w : World} {fn : Func} {t : Tmp} {ty T : TypeId} {k : Nat} {l : List Value} (tmps : Array Value) (h : fn.results = #[.cell t ty]) (hs : tmps.getD t undef = .pointer (some ⟨k, 0, none⟩)) (hb : Box w k T l) (fs : Array Field) (hu : P.underlying ty = some (.struct fs)) (hi : (P.info? ty).map (·.size) = some l.length) :
    (results fn tmps).run P w = .ok (.agg l.toArray) w := by
  have hrun := run_loadVar_row (P := P) w k T ty l.toArray (0, 0) _ hb hu rfl (by simpa using hi)
  have hs' : tmps[t]?.getD undef = .pointer (some ⟨k, 0, none⟩) := by rw [← hs]; simp [Array.getD_eq_getD_getElem?]
  simp [results, h, hs', asAddr, hrun]
end
end Go.Proofs.Ytecfomaapomncaa.Gat
