/-
  Boxes: a block of cells that are told one by one; stored into; kept.
  Rows of the call's own, none of which shares a block with another one; appends onto rows of structs.
  The rows of a gate of the call's own.
  The specification's copy of a link, whatever the cap of what flies.
  The specification's copies of a link (whatever its cap is) and of a gate.
-/
import Derived.Test.YtkndpkingmemoaaDoorMgb
import Derived.Test.YtkndpkingmemoaaDoorMgc
import Derived.Maps.AppendAt
import Derived.Lib.Hide
import Derived.Deep.DeepCutAuto
namespace Go.Proofs.YtkndpkingmemoaaDoor.Gat
open Go.RowKit
set_option linter.unusedVariables false

/-- block k holds just these cells -/
def Box (w : World) (k : Nat) (T : TypeId) (l : List Value) : Prop := w.heap[k]? = some (.cells l.toArray T (0, 0))
section
variable {w w' : World} {k : Nat} {T : TypeId} {l : List Value}
theorem Box.lt (h : Box w k T l) : k < w.heap.size := lt_of_block h
theorem Box.new (w : World) (l : List Value) (T : TypeId) : Box (w.alloc (.cells l.toArray T)) w.heap.size T l := heap_alloc_new w _
theorem Box.low {B : Nat} (h : Box w k T l) (hb : Below B w w') (hk : k < B) : Box w' k T l := (hb.block k hk).trans h
theorem Box.below (h : Box w k T l) (hb : Below w.heap.size w w') : Box w' k T l := h.low hb h.lt
theorem Box.grown {r : Option Nat} (h : Box w k T l) (hg : w.grownBy w' r) (hr : some k ≠ r) : Box w' k T l := (hg.block k h.lt hr).trans h
theorem Box.cell (h : Box w k T l) (i : Nat) (u : Value) (hu : l[i]? = some u) : w.cell? ⟨k, i, none⟩ = some u := by
  unfold Box at h
  rw [cell_of_row w k i _ T (0, 0) h, ← hu]
  simp
theorem Box.frozen (h : Box w k T l) (i : Nat) : w.frozen? ⟨k, i, none⟩ = false := frozen_of_row w k i _ T h
theorem Box.store : ∀ (vs : List Value) (o : Nat) (w : World) (l : List Value), Box w k T l → Box (storeMany w k o vs) k T (setMany l o vs)
  | [], o, w, l, h => h
  | v :: vs, o, w, l, h => by
    refine Box.store vs (o + 1) _ _ ?_
    have h1 := heap_setCell_same w k o l.toArray T v h
    unfold Box
    rw [h1]
    simp
theorem setMany_all (vs l : List Value) (h : vs.length = l.length) : setMany l 0 vs = vs := by
  have := setMany_mid vs l [] [] h.symm
  simpa using this
theorem Box.whole (h : Box w k T l) (vs : List Value) (hl : vs.length = l.length) : Box (storeMany w k 0 vs) k T vs := by
  have := Box.store vs 0 w l h
  rwa [setMany_all vs l hl] at this
theorem store_grown {k : Nat} : ∀ (vs : List Value) (o : Nat) (w : World), w.grownBy (storeMany w k o vs) (some k)
  | [], o, w => ⟨rfl, rfl, rfl, Nat.le_refl _, fun _ _ _ => rfl⟩
  | v :: vs, o, w => by
    have h1 : w.grownBy (w.setCell ⟨k, o, none⟩ v) (some k) := ⟨rfl, rfl, rfl, by simp, fun j _ hj => heap_setCell_other w ⟨k, o, none⟩ j v (fun e => hj (by simp [e]))⟩
    exact h1.trans (store_grown vs (o + 1) _)
theorem store_below {B k : Nat} (hk : B ≤ k) : ∀ (vs : List Value) (o : Nat) (a w : World), Below B a w → Below B a (storeMany w k o vs)
  | [], o, a, w, h => h
  | v :: vs, o, a, w, h => store_below hk vs (o + 1) a _ (h.setCell hk _)
theorem storeMany_run {P : Program} {k : Nat} {T : TypeId} : ∀ (vs : List Value) (o : Nat) (w : World) (l : List Value), Box w k T l → o + vs.length ≤ l.length → (∀ v ∈ vs, v.oneCell' = true) → (storeCells ⟨k, 0, none⟩ vs o).run P w = .ok () (storeMany w k o vs)
  | [], o, w, l, h, _, _ => rfl
  | v :: vs, o, w, l, h, hl, h1 => by
    have hadd : (⟨k, 0, none⟩ : Addr).add o = ⟨k, o, none⟩ := by unfold Addr.add; split <;> simp_all
    have hlt : o < l.length := by simp at hl; omega
    have hc := h.cell o l[o] (List.getElem?_eq_getElem hlt)
    have hst : (store ((⟨k, 0, none⟩ : Addr).add o) v).run P w = .ok () (w.setCell ⟨k, o, none⟩ v) := by
      rw [hadd, run_store P w _ v _ (h1 v (by simp)), hc]
      simp [h.frozen o]
    have ih := storeMany_run (P := P) vs (o + 1) (w.setCell ⟨k, o, none⟩ v) (l.set o v) (Box.store [v] o _ _ h) (by simp at hl ⊢; omega) (fun x hx => h1 x (by simp [hx]))
    simp only [storeCells, Sem.run_bind, hst, Result.andThen_ok]
    exact ih
/-- a box written whole -/
theorem box_store {P : Program} {w : World} {k : Nat} {T : TypeId} {l : List Value} (h : Box w k T l) (vs : List Value) (hl : vs.length = l.length) (h1 : ∀ v ∈ vs, v.oneCell' = true) : (storeCells ⟨k, 0, none⟩ vs 0).run P w = .ok () (storeMany w k 0 vs) :=
  storeMany_run vs 0 w l h (by omega) h1
end
section
variable {P : Program} {w : World} {ops : Array Oper} {rest : List Oper} {o : Oper} {a : Act} {Q : Exit → Act → World → Prop} {k : Nat} {T : TypeId} {l : List Value}
/-- a struct read whole, at the operation -/
theorem wpList_load_box (hg : o.guard = none) (p : Operand) (t : TypeId) (hop : o.op = .load t p) (hs : a.eval p = .pointer (some ⟨k, 0, none⟩)) (hb : Box w k T l) (fs : Array Field) (hu : P.underlying t = some (.struct fs)) (hi : (P.info? t).map (·.size) = some l.length)
    (h : wpList P ops Q rest (a.put o.dst (.agg l.toArray)) w) : wpList P ops Q (o :: rest) a w := by
  refine wpList_plain hg fun K' hK' => ?_
  have hrun : (Instr.loadAt t (.pointer (some ⟨k, 0, none⟩))).run P w = .ok (.agg l.toArray) w := by
    simp only [Instr.loadAt, Instr.sureAddr, Sem.run_bind, Sem.run_pure, Result.andThen]
    exact run_loadVar_row w k T t l.toArray (0, 0) _ hb hu rfl (by simpa using hi)
  unfold Oper.wp
  simp only [execOp, hop, hs, Sem.run_bind, Sem.run_pure, hrun, Result.andThen_ok]
  exact hK' _ _ h
/-- a struct written whole, at the operation -/
theorem wpList_store_box (hg : o.guard = none) (p x : Operand) (t : TypeId) (hop : o.op = .store t p x) (hs : a.eval p = .pointer (some ⟨k, 0, none⟩)) (vs : List Value) (hx : a.eval x = .agg vs.toArray) (hb : Box w k T l) (hi : (P.info? t).map (·.size) = some vs.length) (hl : vs.length = l.length) (h1 : vs.all (·.oneCell') = true)
    (h : ∀ w', Box w' k T vs → w.grownBy w' (some k) → (∀ (B : Nat) (a0 : World), B ≤ k → Below B a0 w → Below B a0 w') → wpList P ops Q rest (a.put o.dst undef) w') : wpList P ops Q (o :: rest) a w := by
  refine wpList_plain hg fun K' hK' => ?_
  have hrun : (Instr.storeAt t (.pointer (some ⟨k, 0, none⟩)) (.agg vs.toArray)).run P w = .ok () (storeMany w k 0 vs) := by
    simp only [Instr.storeAt, Instr.sureAddr, Sem.run_bind, Sem.run_pure, Result.andThen]
    cases hq : P.info? t with
    | none => simp [hq] at hi
    | some i =>
      have hsz : i.size = vs.length := by simpa [hq] using hi
      have := box_store (P := P) hb vs hl (fun v hv => List.all_eq_true.1 h1 v hv)
      simpa [storeVar, sizeOf, typeInfo, hq, Value.cells, hsz] using this
  unfold Oper.wp
  simp only [execOp, hop, hs, hx, Sem.run_bind, Sem.run_pure, hrun, Result.andThen_ok]
  exact hK' _ _ (h _ (hb.whole vs hl) (store_grown vs 0 w) (fun B a0 hB hw => store_below hB vs 0 a0 w hw))
/-- a make, in a drawn region -/
theorem step_make {K : Act → World → Prop} {E : Prop} (hg : o.guard = none) (x y : Operand) (t : TypeId) (hop : o.op = .makeSlice t x y) (vx vy : Value) (hx : a.eval x = vx) (hy : a.eval y = vy) {R : Value → World → Prop}
    (hr : ∃ v' w', (Instr.makeSlice t vx vy).run P w = .ok v' w' ∧ R v' w') (h : ∀ v' w', R v' w' → K (a.put o.dst v') w') : if Region.wanted o (yielded ops a.tmps) = true then Oper.wp P o a w K Q else E := by
  obtain ⟨v', w', hrun, h2⟩ := hr
  rw [if_pos (by simp [Region.wanted, hg])]
  unfold Oper.wp
  simp only [execOp, hop, hx, hy, Sem.run_bind, Sem.run_pure, hrun, Result.andThen_ok]
  exact h v' w' h2
/-- a struct written whole, in a drawn region -/
theorem step_store_box {K : Act → World → Prop} {E : Prop} (hg : o.guard = none) (p x : Operand) (t : TypeId) (hop : o.op = .store t p x) (hs : a.eval p = .pointer (some ⟨k, 0, none⟩)) (vs : List Value) (hx : a.eval x = .agg vs.toArray) (hb : Box w k T l) (hi : (P.info? t).map (·.size) = some vs.length) (hl : vs.length = l.length) (h1 : vs.all (·.oneCell') = true)
    (h : ∀ w', Box w' k T vs → w.grownBy w' (some k) → (∀ (B : Nat) (a0 : World), B ≤ k → Below B a0 w → Below B a0 w') → K (a.put o.dst undef) w') : if Region.wanted o (yielded ops a.tmps) = true then Oper.wp P o a w K Q else E := by
  rw [if_pos (by simp [Region.wanted, hg])]
  have hrun : (Instr.storeAt t (.pointer (some ⟨k, 0, none⟩)) (.agg vs.toArray)).run P w = .ok () (storeMany w k 0 vs) := by
    simp only [Instr.storeAt, Instr.sureAddr, Sem.run_bind, Sem.run_pure, Result.andThen]
    cases hq : P.info? t with
    | none => simp [hq] at hi
    | some i =>
      have hsz : i.size = vs.length := by simpa [hq] using hi
      have := box_store (P := P) hb vs hl (fun v hv => List.all_eq_true.1 h1 v hv)
      simpa [storeVar, sizeOf, typeInfo, hq, Value.cells, hsz] using this
  unfold Oper.wp
  simp only [execOp, hop, hs, hx, Sem.run_bind, Sem.run_pure, hrun, Result.andThen_ok]
  exact h _ (hb.whole vs hl) (store_grown vs 0 w) (fun B a0 hB hw => store_below hB vs 0 a0 w hw)
theorem exec_load_box {ρ : Operand → Value} (p : Operand) (t : TypeId) (hop : o.op = .load t p) (hs : ρ p = .pointer (some ⟨k, 0, none⟩)) (hb : Box w k T l) (fs : Array Field) (hu : P.underlying t = some (.struct fs)) (hi : (P.info? t).map (·.size) = some l.length) :
    (execOp ρ o).run P w = .ok (.value (.agg l.toArray)) w := by
  have hrun : (Instr.loadAt t (.pointer (some ⟨k, 0, none⟩))).run P w = .ok (.agg l.toArray) w := by
    simp only [Instr.loadAt, Instr.sureAddr, Sem.run_bind, Sem.run_pure, Result.andThen]
    exact run_loadVar_row w k T t l.toArray (0, 0) _ hb hu rfl (by simpa using hi)
  simp only [execOp, hop, hs, Sem.run_bind, Sem.run_pure, hrun, Result.andThen_ok]
/-- a struct handed back out of its box -/
theorem results_box {P : Program} {w : World} {fn : Func} {t : Tmp} {ty T : TypeId} {k : Nat} {l : List Value} (tmps : Array Value) (h : fn.results = #[.cell t ty]) (hs : tmps.getD t undef = .pointer (some ⟨k, 0, none⟩)) (hb : Box w k T l) (fs : Array Field) (hu : P.underlying ty = some (.struct fs)) (hi : (P.info? ty).map (·.size) = some l.length) :
    (results fn tmps).run P w = .ok (.agg l.toArray) w := by
  have hrun := run_loadVar_row (P := P) w k T ty l.toArray (0, 0) _ hb hu rfl (by simpa using hi)
  have hs' : tmps[t]?.getD undef = .pointer (some ⟨k, 0, none⟩) := by rw [← hs]; simp [Array.getD_eq_getD_getElem?]
  simp [results, h, hs', asAddr, hrun]
end
end Go.Proofs.YtkndpkingmemoaaDoor.Gat
namespace Go.Proofs.YtkndpkingmemoaaDoor.Gat
open Go.RowKit
open Lnk (bOne bAfter IOwn IIs YOwn YIs below_keep below_drew' bcell low_after low_alloc grown_of_below)
set_option linter.unusedVariables false

/-- two values don't lie in one block -/
def Apart (u v : Value) : Prop := u.ownBlock = none ∨ u.ownBlock ≠ v.ownBlock
theorem Apart.symm {u v : Value} (h : Apart u v) : Apart v u := by
  rcases h with h | h
  · cases hv : v.ownBlock with
    | none => exact .inl hv
    | some q => exact .inr (by rw [h, hv]; simp)
  · exact .inr (Ne.symm h)
/-- a row: element type, size of an element, the slice, how many, what is in it -/
structure Rw where
  E : TypeId
  z : Nat
  v : Value
  n : Nat
  xs : List Value
def Rw.At (B : Nat) (w : World) (r : Rw) : Prop := w.ownsRow B r.E r.z r.v r.n r.xs
theorem Rw.At.lt {B : Nat} {w : World} {r : Rw} (h : r.At B w) (k : Nat) (hk : r.v.ownBlock = some k) : B ≤ k ∧ k < w.heap.size := World.ownsRow.lt h k hk
theorem Rw.At.kept {B : Nat} {w w' : World} {r : Rw} {b : Option Nat} (h : r.At B w) (hg : w.grownBy w' b) (hne : r.v.ownBlock = none ∨ r.v.ownBlock ≠ b) : r.At B w' := World.ownsRow.kept h hg hne
theorem Rw.At.base {B B' : Nat} {w : World} {r : Rw} (h : r.At B w) (hB : B' ≤ B) : r.At B' w := by
  refine ⟨h.1, ?_⟩
  rcases h.2 with e | ⟨g, c, cur, e, hb, t⟩
  · exact .inl e
  · exact .inr ⟨g, c, cur, e, by omega, t⟩
theorem Rw.At.apart {B B' : Nat} {w : World} {r s : Rw} (h : r.At B w) (h' : s.At B' w) (hne : r.E ≠ s.E) : Apart r.v s.v := by
  rcases h.2 with ⟨e, _⟩ | ⟨g, c, cur, e, hb, hg, _⟩
  · left; rw [e]; rfl
  · right
    rw [e]
    intro e2
    rcases h'.2 with ⟨e3, _⟩ | ⟨g', c', cur', e3, hb', hg', _⟩
    · rw [e3] at e2; simp [Value.ownBlock] at e2
    · rw [e3] at e2
      simp only [Value.ownBlock, Option.some.injEq] at e2
      subst e2
      rw [hg] at hg'
      simp only [Option.some.injEq, Obj.cells.injEq] at hg'
      exact hne hg'.2.1
/-- rows, each in a block of its own -/
structure Rws (B : Nat) (w : World) (L : List Rw) : Prop where
  at_ : ∀ r ∈ L, r.At B w
  sep : L.Pairwise fun a b => Apart a.v b.v
section
variable {B B' : Nat} {w w' : World} {L M : List Rw} {r : Rw}
theorem Rws.nil : Rws B w [] := ⟨fun r hr => (by cases hr), List.Pairwise.nil⟩
theorem Rws.tail (h : Rws B w (r :: L)) : Rws B w L := ⟨fun s hs => h.at_ s (by simp [hs]), (List.pairwise_cons.1 h.sep).2⟩
theorem Rws.head (h : Rws B w (r :: L)) : r.At B w := h.at_ r (by simp)
theorem Rws.base (h : Rws B w L) (hB : B' ≤ B) : Rws B' w L := ⟨fun r hr => (h.at_ r hr).base hB, h.sep⟩
theorem Rws.perm (h : Rws B w L) (hp : L.Perm M) : Rws B w M := ⟨fun r hr => h.at_ r (hp.mem_iff.2 hr), (hp.pairwise_iff (fun h => Apart.symm h)).1 h.sep⟩
/-- rows that none of which lies in the block that changed -/
theorem Rws.kept {b : Option Nat} (h : Rws B w L) (hg : w.grownBy w' b) (hne : ∀ r ∈ L, r.v.ownBlock = none ∨ r.v.ownBlock ≠ b) : Rws B w' L := ⟨fun r hr => (h.at_ r hr).kept hg (hne r hr), h.sep⟩
theorem Rws.below (h : Rws B w L) (hb : Below w.heap.size w w') : Rws B w' L := h.kept (grown_of_below hb none) fun r _ => by
  cases hv : r.v.ownBlock with
  | none => exact .inl rfl
  | some k => exact .inr (by simp)
/-- a block below all rows changed -/
theorem Rws.low {k : Nat} (h : Rws B w L) (hg : w.grownBy w' (some k)) (hk : k < B) : Rws B w' L := h.kept hg fun r hr => by
  cases hv : r.v.ownBlock with
  | none => exact .inl rfl
  | some q => exact .inr (by have := ((h.at_ r hr).lt q hv).1; intro e; injection e; omega)
theorem Rws.setLow {p : Addr} (h : Rws B w L) (hp : p.block < B) (u : Value) : Rws B (w.setCell p u) L :=
  h.low (k := p.block) ⟨rfl, rfl, rfl, by simp, fun k _ hk => heap_setCell_other w p k u (fun e => hk (by simp [e]))⟩ hp
/-- one row more, a new one -/
theorem Rws.more (h : Rws B w L) (hr : r.At B w) (hnew : ∀ k, r.v.ownBlock = some k → ∀ s ∈ L, s.v.ownBlock ≠ some k) : Rws B w (r :: L) :=
  ⟨fun s hs => by
    rcases List.mem_cons.1 hs with rfl | hs
    · exact hr
    · exact h.at_ s hs, List.pairwise_cons.2 ⟨fun s hs => by
    cases hv : r.v.ownBlock with
    | none => exact .inl hv
    | some k => exact .inr (by rw [hv]; exact fun e => hnew k hv s hs e.symm), h.sep⟩⟩
/-- rows of w stand as they were, behind a call that made new ones -/
theorem Rws.app (h : Rws B w L) (hb : Below w.heap.size w w') (hm : Rws w.heap.size w' M) (hB : B ≤ w.heap.size) : Rws B w' (M ++ L) :=
  ⟨fun r hr => by
    rcases List.mem_append.1 hr with hr | hr
    · exact (hm.at_ r hr).base hB
    · exact (h.below hb).at_ r hr, List.pairwise_append.2 ⟨hm.sep, h.sep, fun a ha b hb' => by
    cases hv : a.v.ownBlock with
    | none => exact .inl hv
    | some k =>
      refine .inr fun e => ?_
      rw [hv] at e
      have h1 := ((hm.at_ a ha).lt k hv).1
      have h2 := ((h.at_ b hb').lt k e.symm).2
      omega⟩⟩
theorem Rws.new (h : Rws B w L) (hb : Below w.heap.size w w') (hr : r.At w.heap.size w') (hB : B ≤ w.heap.size) : Rws B w' (r :: L) :=
  h.app (M := [r]) hb ⟨fun s hs => by rw [List.mem_singleton.1 hs]; exact hr, List.pairwise_singleton _ _⟩ hB
/-- the first row was written, or grew into a block that was new -/
theorem Rws.first {s : Rw} (h : Rws B w (r :: L)) (hg : w.grownBy w' r.v.ownBlock) (hs : s.At B w') (hat : s.v.ownBlock = r.v.ownBlock ∨ s.v.ownBlock = some w.heap.size) : Rws B w' (s :: L) := by
  have h1 := List.pairwise_cons.1 h.sep
  have h2 : Rws B w' L := h.tail.kept hg fun t ht => (h1.1 t ht).symm
  refine h2.more hs fun k hk t ht e => ?_
  have h3 := h1.1 t ht
  have h4 := ((h.tail.at_ t ht).lt k e).2
  rcases hat with ha | ha
  · rw [hk] at ha
    rcases h3 with h3 | h3
    · rw [h3] at ha; cases ha
    · exact h3 (by rw [← ha, e])
  · rw [hk] at ha
    injection ha
    omega
/-- the first row takes the place of another one -/
theorem Rws.take (h : Rws B w (r :: L)) (i : Nat) : Rws B w (L.set i r) := by
  refine ⟨fun s hs => ?_, ?_⟩
  · rcases List.mem_or_eq_of_mem_set hs with hs | rfl
    · exact h.tail.at_ s hs
    · exact h.head
  · have h1 := List.pairwise_cons.1 h.sep
    rw [List.pairwise_iff_getElem] at h1 ⊢
    intro a b ha hb hab
    rw [List.length_set] at ha hb
    rw [List.getElem_set, List.getElem_set]
    split
    · split
      · omega
      · exact h1.1 _ (List.getElem_mem _)
    · split
      · exact (h1.1 _ (List.getElem_mem _)).symm
      · exact h1.2 a b ha hb hab
end
/-- a row that came of an append -/
def AppR {α : Type} (S : Shp α) (B : Nat) (w : World) (E : TypeId) (v : Value) (ys : List α) (v' : Value) (w' : World) : Prop := ROwn S B w' E v' ys ∧ w.grownBy w' v.ownBlock ∧ (v'.ownBlock = v.ownBlock ∨ v'.ownBlock = some w.heap.size)
theorem run_append_nilcap {P : Program} {w : World} (base : Nat) (t ty e : TypeId) (i : TypeInfo) (size cap : Nat) (ht : P.underlying t = some (.slice e)) (hi : P.info? e = some i)
    (v : Value) (n : Nat) (xs : List Value) (hown : w.ownsRow base e size v n xs) :
    (Builtin.append_ #[t, t] ty #[v, .slice none 0 cap]).run P w = .ok v w := by
  rcases hown.2 with ⟨rfl, rfl⟩ | ⟨g, c, cur, rfl, _, _, hnc, _⟩
  · simp [Builtin.append_, run_underlying ht, sizeOf, typeInfo, hi, Builtin.lenOf, Builtin.firstCells]
  · simp [Builtin.append_, run_underlying ht, sizeOf, typeInfo, hi, Builtin.lenOf, Builtin.firstCells, hnc, storeCells]
/-- an append of a slice of structs onto a row of the call's own -/
theorem app_row {α : Type} (S : Shp α) {T ty E : TypeId} {z : Value} {by_ : Nat} (hT : Tryd.prog.underlying T = some (.slice E)) (hinfo : (Tryd.prog.info? E).map (fun i => (i.zero, i.size, i.bytes)) = some (some z, S.n, by_)) (hzs : z.cells.size = S.n) (hp : 0 < S.n) (hby : by_ ≤ 100)
    {w : World} {B : Nat} {v : Value} {xs l : List α} {a : Option Addr} {len cap : Nat} (hown : ROwn S B w E v xs) (hs : RIs S w.heap.size w a len l) (h1 : ∀ u ∈ flatF S l, u.oneCell' = true) (hx : xs.length + len ≤ 100000000) (hB : B ≤ w.heap.size) :
    ∃ v' w', (Builtin.append_ #[T, T] ty #[v, .slice a len cap]).run Tryd.prog w = .ok v' w' ∧ AppR S B w E v (xs ++ l) v' w' := by
  obtain ⟨i0, hi, hz0, hz1, hz2⟩ := info_parts hinfo
  cases a with
  | none =>
    obtain ⟨rfl, rfl⟩ := hs.none_nil
    rw [List.append_nil]
    exact ⟨v, w, run_append_nilcap (P := Tryd.prog) (w := w) B T ty E i0 S.n cap hT hi v xs.length (flatF S xs) hown, hown, World.grownBy.refl _ _, .inl rfl⟩
  | some ad =>
    have hlen := hs.hlen
    obtain ⟨v', w', hr, h2, h3, _, h5⟩ := run_append_own_at (P := Tryd.prog) w B T ty E i0 _ S.n by_ hT hi hz0 hz1 hz2 hzs hp v xs.length (flatF S xs) hown ad len cap (flatF S l) (by rw [flatF_len, hlen]) (hs.flat hp) h1 (by unfold maxLen; omega) (by
      have : (xs.length + len) * by_ ≤ 100000000 * 100 := Nat.mul_le_mul hx hby
      omega) hB
    refine ⟨v', w', hr, ?_, h3, h5⟩
    unfold ROwn
    rw [List.length_append, flatF_app, hlen]
    exact h2
/-- one number as a struct of one cell -/
def inS : Shp Int := ⟨1, fun x => [.int .i64 x], fun _ => rfl⟩
theorem flat_in (l : List Int) : flatF inS l = l.map (fun x => .int .i64 x) := by
  induction l with
  | nil => rfl
  | cons x l ih => rw [flatF_cons, ih]; rfl
theorem iown_row {B : Nat} {w : World} {v : Value} {l : List Int} : IOwn B w v l ↔ ROwn inS B w 3 v l := by
  unfold IOwn ROwn
  rw [flat_in]
  exact Iff.rfl
theorem iis_row {B : Nat} {w : World} {a : Option Addr} {n : Nat} {l : List Int} (h : IIs B w a n l) (hn : n ≤ maxLen) : RIs inS B w a n l :=
  ⟨h.hlen, hn, fun k hk => by
    obtain ⟨b, off, e, hlt, h0⟩ := h.cell k hk
    refine ⟨b, off, e, hlt, fun i u hu => ?_⟩
    have hi : i < 1 := (List.getElem?_eq_some_iff.1 hu).1
    obtain rfl : i = 0 := by omega
    have : u = .int .i64 l[k] := by simpa [inS] using hu.symm
    rw [this]
    simpa [inS] using h0⟩
theorem flat_in_one (l : List Int) : ∀ u ∈ flatF inS l, u.oneCell' = true := by
  intro u hu
  rw [flat_in] at hu
  obtain ⟨t, _, rfl⟩ := List.mem_map.1 hu
  rfl
theorem flat_ev_one (l : List Ev) : ∀ u ∈ flatF evS l, u.oneCell' = true := by
  intro u hu
  obtain ⟨t, _, ht⟩ := List.mem_flatMap.1 hu
  change u ∈ Ev.vals t at ht
  simp [Ev.vals] at ht
  rcases ht with rfl | rfl | rfl | rfl | rfl | rfl | rfl | rfl | rfl <;> rfl
end Go.Proofs.YtkndpkingmemoaaDoor.Gat
namespace Go.Proofs.YtkndpkingmemoaaDoor.Gat
open Go.RowKit
open Lnk (bOne bAfter IOwn IIs YOwn YIs below_keep below_drew' bcell low_after low_alloc grown_of_below)
set_option linter.unusedVariables false

def evR (v : Value) (E : List Ev) : Rw := ⟨55, 9, v, E.length, flatF evS E⟩
def lrR (v : Value) (raw : List Lr) : Rw := ⟨44, 4, v, raw.length, flatF lrS raw⟩
def inR (v : Value) (l : List Int) : Rw := ⟨3, 1, v, l.length, l.map fun x => .int .i64 x⟩
def flR (v : Value) (y : List Lnk.Y) : Rw := ⟨86, 3, v, y.length, Lnk.flat y⟩
theorem evR_at {B : Nat} {w : World} {v : Value} {E : List Ev} : (evR v E).At B w ↔ ROwn evS B w 55 v E := Iff.rfl
theorem lrR_at {B : Nat} {w : World} {v : Value} {l : List Lr} : (lrR v l).At B w ↔ ROwn lrS B w 44 v l := Iff.rfl
theorem inR_at {B : Nat} {w : World} {v : Value} {l : List Int} : (inR v l).At B w ↔ IOwn B w v l := Iff.rfl
/-- links as they lie in a row: vs are the slices of what flies -/
def rawOf : List Lk → List Value → List Lr
  | k :: K, v :: vs => ⟨k.up, k.ep, k.sq, v⟩ :: rawOf K vs
  | _, _ => []
def flRs : List Lk → List Value → List Rw
  | k :: K, v :: vs => flR v k.l :: flRs K vs
  | _, _ => []
theorem rawOf_len : ∀ {K : List Lk} {vs : List Value}, vs.length = K.length → (rawOf K vs).length = K.length
  | [], [], _ => rfl
  | k :: K, v :: vs, h => by rw [rawOf, List.length_cons, rawOf_len (by simpa using h), List.length_cons]
theorem flRs_len : ∀ {K : List Lk} {vs : List Value}, vs.length = K.length → (flRs K vs).length = K.length
  | [], [], _ => rfl
  | k :: K, v :: vs, h => by rw [flRs, List.length_cons, flRs_len (by simpa using h), List.length_cons]
theorem rawOf_get : ∀ {K : List Lk} {vs : List Value} (j : Nat) (h : j < (rawOf K vs).length) (hk : j < K.length) (hv : j < vs.length), (rawOf K vs)[j] = ⟨K[j].up, K[j].ep, K[j].sq, vs[j]⟩
  | k :: K, v :: vs, 0, _, _, _ => rfl
  | k :: K, v :: vs, j + 1, h, hk, hv => by
    simp only [rawOf, List.getElem_cons_succ]
    exact rawOf_get j (by simpa [rawOf] using h) (by simpa using hk) (by simpa using hv)
theorem flRs_get : ∀ {K : List Lk} {vs : List Value} (j : Nat) (h : j < (flRs K vs).length) (hk : j < K.length) (hv : j < vs.length), (flRs K vs)[j] = flR vs[j] K[j].l
  | k :: K, v :: vs, 0, _, _, _ => rfl
  | k :: K, v :: vs, j + 1, h, hk, hv => by
    simp only [flRs, List.getElem_cons_succ]
    exact flRs_get j (by simpa [flRs] using h) (by simpa using hk) (by simpa using hv)
theorem rawOf_set : ∀ (K : List Lk) (vs : List Value) (j : Nat) (k : Lk) (v : Value), (rawOf K vs).set j ⟨k.up, k.ep, k.sq, v⟩ = rawOf (K.set j k) (vs.set j v)
  | [], _, _, _, _ => rfl
  | k' :: K, [], 0, _, _ => rfl
  | k' :: K, [], j + 1, _, _ => rfl
  | k' :: K, v' :: vs, 0, k, v => rfl
  | k' :: K, v' :: vs, j + 1, k, v => by
    simp only [rawOf, List.set_cons_succ]
    rw [rawOf_set K vs j k v]
theorem flRs_set : ∀ (K : List Lk) (vs : List Value) (j : Nat) (k : Lk) (v : Value), (flRs K vs).set j (flR v k.l) = flRs (K.set j k) (vs.set j v)
  | [], _, _, _, _ => rfl
  | k' :: K, [], 0, _, _ => rfl
  | k' :: K, [], j + 1, _, _ => rfl
  | k' :: K, v' :: vs, 0, k, v => rfl
  | k' :: K, v' :: vs, j + 1, k, v => by
    simp only [flRs, List.set_cons_succ]
    rw [flRs_set K vs j k v]
theorem rawOf_snoc : ∀ {K : List Lk} {vs : List Value}, vs.length = K.length → ∀ (k : Lk) (v : Value), rawOf (K ++ [k]) (vs ++ [v]) = rawOf K vs ++ [⟨k.up, k.ep, k.sq, v⟩]
  | [], [], _, _, _ => rfl
  | k' :: K, v' :: vs, h, k, v => by simp only [List.cons_append, rawOf]; rw [rawOf_snoc (by simpa using h)]
theorem flRs_snoc : ∀ {K : List Lk} {vs : List Value}, vs.length = K.length → ∀ (k : Lk) (v : Value), flRs (K ++ [k]) (vs ++ [v]) = flRs K vs ++ [flR v k.l]
  | [], [], _, _, _ => rfl
  | k' :: K, v' :: vs, h, k, v => by simp only [List.cons_append, flRs]; rw [flRs_snoc (by simpa using h)]
/-- the rows of a gate -/
def gRows (ev lk lf lt : Value) (vs : List Value) (E : List Ev) (K : List Lk) (F R : List Int) : List Rw := evR ev E :: lrR lk (rawOf K vs) :: inR lf F :: inR lt R :: flRs K vs
/-- a gate's rows are the call's own -/
structure GOwn (B : Nat) (w : World) (ev lk lf lt : Value) (vs : List Value) (E : List Ev) (K : List Lk) (F R : List Int) : Prop where
  rows : Rws B w (gRows ev lk lf lt vs E K F R)
  len : vs.length = K.length
  body : ∀ e ∈ E, e.b.size ≤ maxLen
section
variable {B B' : Nat} {w w' : World} {ev lk lf lt : Value} {vs : List Value} {E : List Ev} {K : List Lk} {F R : List Int} {L : List Rw}
theorem GOwn.evO (h : GOwn B w ev lk lf lt vs E K F R) : ROwn evS B w 55 ev E := h.rows.at_ (evR ev E) (by simp [gRows])
theorem GOwn.lkO (h : GOwn B w ev lk lf lt vs E K F R) : ROwn lrS B w 44 lk (rawOf K vs) := h.rows.at_ (lrR lk (rawOf K vs)) (by simp [gRows])
theorem GOwn.lfO (h : GOwn B w ev lk lf lt vs E K F R) : IOwn B w lf F := h.rows.at_ (inR lf F) (by simp [gRows])
theorem GOwn.ltO (h : GOwn B w ev lk lf lt vs E K F R) : IOwn B w lt R := h.rows.at_ (inR lt R) (by simp [gRows])
theorem GOwn.fly (h : GOwn B w ev lk lf lt vs E K F R) (j : Nat) (hk : j < K.length) (hv : j < vs.length) : YOwn B w 86 vs[j] K[j].l := by
  have hl : j < (flRs K vs).length := by rw [flRs_len h.len]; exact hk
  have h1 := h.rows.at_ (flRs K vs)[j] (by unfold gRows; simp)
  rw [flRs_get j hl hk hv] at h1
  exact h1
theorem GOwn.shape (h : GOwn B w ev lk lf lt vs E K F R) : ∃ ea ec ka kc fa fc ra rc, ev = .slice ea E.length ec ∧ lk = .slice ka K.length kc ∧ lf = .slice fa F.length fc ∧ lt = .slice ra R.length rc := by
  obtain ⟨ea, ec, h1⟩ := h.evO.shape
  obtain ⟨ka, kc, h2⟩ := h.lkO.shape
  obtain ⟨fa, fc, h3⟩ := Lnk.IOwn.shape h.lfO
  obtain ⟨ra, rc, h4⟩ := Lnk.IOwn.shape h.ltO
  rw [rawOf_len h.len] at h2
  exact ⟨ea, ec, ka, kc, fa, fc, ra, rc, h1, h2, h3, h4⟩
theorem own_lenmax {B : Nat} {w : World} {E : TypeId} {z n : Nat} {v : Value} {xs : List Value} (h : w.ownsRow B E z v n xs) : n ≤ maxLen := by
  rcases h.2 with ⟨_, e⟩ | ⟨g, c, cur, e, hb, hg, hn, hm, _⟩
  · rw [e]; unfold maxLen; omega
  · omega
/-- as read -/
theorem GOwn.is {ea : Option Addr} {en ec : Nat} {ka : Option Addr} {kn kc : Nat} {fa : Option Addr} {fn fc : Nat} {ra : Option Addr} {rn rc : Nat} (h : GOwn B w (.slice ea en ec) (.slice ka kn kc) (.slice fa fn fc) (.slice ra rn rc) vs E K F R) :
    GIs w.heap.size w ea en ka kn fa fn ra rn E K F R := by
  have hlk := h.lkO.isN
  refine ⟨⟨h.evO.isN, h.body⟩, ⟨rawOf K vs, hlk, rawOf_len h.len, fun k hk hk' => ?_⟩, Lnk.IOwn.isN h.lfO, Lnk.IOwn.isN h.ltO, ?_, ?_⟩
  · have hv : k < vs.length := by rw [h.len]; exact hk'
    rw [rawOf_get k hk hk' hv]
    have hf := h.fly k hk' hv
    obtain ⟨a, c, e⟩ := hf.shape
    rw [e] at hf
    exact ⟨rfl, rfl, rfl, a, _, c, e, hf.isN⟩
  · have h1 := own_lenmax h.lfO
    have := (Lnk.IOwn.isN h.lfO).hlen
    omega
  · have h1 := own_lenmax h.ltO
    have := (Lnk.IOwn.isN h.ltO).hlen
    omega
theorem GOwn.below (h : GOwn B w ev lk lf lt vs E K F R) (hb : Below w.heap.size w w') : GOwn B w' ev lk lf lt vs E K F R := ⟨h.rows.below hb, h.len, h.body⟩
theorem GOwn.base (h : GOwn B w ev lk lf lt vs E K F R) (hB : B' ≤ B) : GOwn B' w ev lk lf lt vs E K F R := ⟨h.rows.base hB, h.len, h.body⟩
theorem GOwn.low {k : Nat} (h : GOwn B w ev lk lf lt vs E K F R) (hg : w.grownBy w' (some k)) (hk : k < B) : GOwn B w' ev lk lf lt vs E K F R := ⟨h.rows.low hg hk, h.len, h.body⟩
theorem GOwn.setLow {p : Addr} (h : GOwn B w ev lk lf lt vs E K F R) (hp : p.block < B) (u : Value) : GOwn B (w.setCell p u) ev lk lf lt vs E K F R := ⟨h.rows.setLow hp u, h.len, h.body⟩
/-- the messages' row changed -/
theorem GOwn.setEv {ev' : Value} {E' : List Ev} (h : GOwn B w ev lk lf lt vs E K F R) (hg : w.grownBy w' ev.ownBlock) (ho : ROwn evS B w' 55 ev' E') (hat : ev'.ownBlock = ev.ownBlock ∨ ev'.ownBlock = some w.heap.size) (hb : ∀ e ∈ E', e.b.size ≤ maxLen) : GOwn B w' ev' lk lf lt vs E' K F R :=
  ⟨Rws.first (r := evR ev E) (s := evR ev' E') h.rows hg ho hat, h.len, hb⟩
theorem perm2 (a b : Rw) (L : List Rw) : (a :: b :: L).Perm (b :: a :: L) := List.Perm.swap _ _ _
/-- a link was written, whose flies lie in a row of their own -/
theorem GOwn.setLk {k : Lk} {v : Value} (j : Nat) (h : GOwn B w ev lk lf lt vs E K F R) (hn : Rws B w (flR v k.l :: gRows ev lk lf lt vs E K F R)) (hg : w.grownBy w' lk.ownBlock) (ho : ROwn lrS B w' 44 lk ((rawOf K vs).set j ⟨k.up, k.ep, k.sq, v⟩)) : GOwn B w' ev lk lf lt (vs.set j v) E (K.set j k) F R := by
  refine ⟨?_, by rw [List.length_set, List.length_set]; exact h.len, h.body⟩
  have h1 := hn.take (j + 4)
  have e : (gRows ev lk lf lt vs E K F R).set (j + 4) (flR v k.l) = evR ev E :: lrR lk (rawOf K vs) :: inR lf F :: inR lt R :: flRs (K.set j k) (vs.set j v) := by
    rw [← flRs_set]
    rfl
  rw [e] at h1
  rw [rawOf_set] at ho
  exact (Rws.first (r := lrR lk (rawOf K vs)) (s := lrR lk (rawOf (K.set j k) (vs.set j v))) (h1.perm (perm2 _ _ _)) hg ho (.inl rfl)).perm (perm2 _ _ _)
end
/-- a gate that was handed back, its rows new -/
def GEnd (w w' : World) (de qu wi ti qa bu le pb pc pj pt nw la tu tk ac dr : Int) (E : List Ev) (K : List Lk) (F R : List Int) (e : Ending) : Prop :=
  (∃ ea ec ka kc fa fc ra rc vs, e = .returned (.agg #[.int .i64 de, .int .i64 qu, .int .i64 wi, .int .i64 ti, .int .i64 qa, .int .i64 bu, .int .i64 le, .int .i64 pb, .int .i64 pc, .int .i64 pj, .int .i64 pt, .int .i64 nw, .int .i64 la, .slice ea E.length ec, .slice ka K.length kc, .int .i64 tu, .slice fa F.length fc, .slice ra R.length rc, .int .i64 tk, .int .i64 ac, .int .i64 dr]) ∧ GOwn w.heap.size w' (.slice ea E.length ec) (.slice ka K.length kc) (.slice fa F.length fc) (.slice ra R.length rc) vs E K F R) ∧ Below w.heap.size w w'
end Go.Proofs.YtkndpkingmemoaaDoor.Gat
namespace Go.Proofs.YtkndpkingmemoaaDoor.Lnk
open Go.RowKit
set_option linter.unusedVariables false
set_option linter.unusedSimpArgs false
theorem app_yisC {T : TypeId} (hT : Tryd.prog.underlying T = some (.slice 86)) {w : World} {B : Nat} {v : Value} {xs l : List Y} {a : Option Addr} {len cap : Nat} (hown : YOwn B w 86 v xs) (hs : YIs w.heap.size w a len l) (hx : xs.length + len ≤ 2000000) (hB : B ≤ w.heap.size) :
    ∃ v' w', (Builtin.append_ #[T, T] T #[v, .slice a len cap]).run Tryd.prog w = .ok v' w' ∧ AppY B w v (xs ++ l) v' w' := by
  cases a with
  | none =>
    obtain ⟨i0, hi, hz0, hz1, hz2⟩ := info_parts infoFly
    obtain ⟨rfl, rfl⟩ := hs.none_nil
    rw [List.append_nil]
    exact ⟨v, w, Gat.run_append_nilcap (P := Tryd.prog) (w := w) B T T 86 i0 3 cap hT hi v xs.length (Lnk.flat xs) hown, hown, World.grownBy.refl _ _, .inl rfl⟩
  | some ad => exact app_yis hT hown hs (fun e => by cases e) hx hB

set_option maxRecDepth 100000 in
set_option maxHeartbeats 1000000 in
theorem specCopyC_any (w : World) (a : Option Addr) (len cap : Nat) (up : Bool) (ep sq : Int) (l : List Y) (h : YIs w.heap.size w a len l) (hlen : len ≤ 1048576) :
    Calls Tryd.prog 48 #[.agg #[.bool up, .int .i64 ep, .int .i64 sq, .slice a len cap]] w fun e w' => LinkEnd w w' up ep sq l e := by
  have hf := Fr2.two w up ep sq a len cap l h 44 44
  have HF := Lib.hid hf
  have hs0 : ((w.alloc (.cells #[.bool up, .int .i64 ep, .int .i64 sq, .slice a len cap] 44)).alloc (.cells #[.bool false, .int .i64 0, .int .i64 0, .slice none 0 0] 44)).heap.size = w.heap.size + 1 + 1 := by simp
  have hb := bOne ((w.alloc (.cells #[.bool up, .int .i64 ep, .int .i64 sq, .slice a len cap] 44)).alloc (.cells #[.bool false, .int .i64 0, .int .i64 0, .slice none 0 0] 44)) (.cells #[] 86)
  have HB := Lib.hid hb
  have HT := Lib.hid (hf.here.here hb)
  have hE := ylit ((w.alloc (.cells #[.bool up, .int .i64 ep, .int .i64 sq, .slice a len cap] 44)).alloc (.cells #[.bool false, .int .i64 0, .int .i64 0, .slice none 0 0] 44)) 86
  rw [hs0] at hE
  have HE := Lib.hid hE
  have HS0 := Lib.hid hs0
  clear h hf hE hb hs0
  go_enter Tryd.func48, Tryd.ntmps48
  go_wp2_with (first
    | (at_builtin; refine wpList_append_run rfl _ _ 42 rfl _ _ rfl rfl (app_yisC Tryd.underlying42 HE.out HT.out (by simp; omega) (by simp)) ?_; intro v' w6 happ6
       obtain ⟨a', cap', rfl⟩ := YOwn.shape (l := l) happ6.1
       have hb6 := happ6.below HB.out (Nat.le_refl _) (fun k e => by cases e; exact Nat.le_of_eq HS0.out)
       have HF6 := Lib.hid (HF.out.step hb6)
       have HO6 := Lib.hid (show YOwn (w.heap.size + 1 + 1) w6 86 (.slice a' l.length cap') l from happ6.1)
       clear happ6 hb6 HF HB HT HE
       obtain ⟨⟨c0, c1, c2, c3⟩, ⟨d0, d1, d2, d3⟩, ⟨f0, f1, f2, f3⟩, g3⟩ := HF6.out.cells)
    | fail)
  refine bodyPost_ret (v := .agg #[.bool up, .int .i64 ep, .int .i64 sq, .slice a' l.length cap']) (by simp [results, Tryd.results48, go_sem, d0, d1, d2, d3]) rfl ⟨⟨a', cap', rfl, ?_⟩, ?_⟩
  · exact (((((HO6.out.setLow (by simp; omega) _).setLow (by simp) _).setLow (by simp) _).setLow (by simp) _).setLow (by simp) _).base (by omega)
  · exact ((((HF6.out.low.setCell (by simp) _).setCell (by simp) _).setCell (by simp) _).setCell (by simp) _).setCell (by simp) _
end Go.Proofs.YtkndpkingmemoaaDoor.Lnk
namespace Go.Proofs.YtkndpkingmemoaaDoor.Gat
open Go.RowKit
open Lnk (bOne bAfter IOwn IIs YOwn YIs below_keep below_drew' bcell low_after low_alloc grown_of_below)
set_option linter.unusedVariables false
set_option linter.unusedSimpArgs false

theorem evZ : (Value.agg #[.int .i64 0, .int .i64 0, .int .i64 0, .string ByteArray.empty, .int .i64 0, .int .i64 0, .int .i64 0, .int .i64 0, .int .i64 0]).cells.size = evS.n := rfl
theorem lrZ : (Value.agg #[.bool false, .int .i64 0, .int .i64 0, .slice none 0 0]).cells.size = lrS.n := rfl
theorem inZ : (Value.int .i64 0).cells.size = inS.n := rfl
theorem c4_below {w w' : World} {b o : Nat} {up : Bool} {ep sq : Int} {v : Value} (h : C4 w b o up ep sq v) (hb : Below w.heap.size w w') : C4 w' b o up ep sq v :=
  ⟨(hb.cell (p := ⟨b, o, none⟩) (World.block_lt_of_cell? _ _ h.c0)).trans h.c0, (hb.cell (p := ⟨b, o + 1, none⟩) (World.block_lt_of_cell? _ _ h.c1)).trans h.c1, (hb.cell (p := ⟨b, o + 2, none⟩) (World.block_lt_of_cell? _ _ h.c2)).trans h.c2, (hb.cell (p := ⟨b, o + 3, none⟩) (World.block_lt_of_cell? _ _ h.c3)).trans h.c3⟩
theorem c4_grown {w w' : World} {r : Option Nat} {b o : Nat} {up : Bool} {ep sq : Int} {v : Value} (h : C4 w b o up ep sq v) (hg : w.grownBy w' r) (hne : some b ≠ r) : C4 w' b o up ep sq v :=
  ⟨hg.cell (a := ⟨b, o, none⟩) h.c0 hne, hg.cell (a := ⟨b, o + 1, none⟩) h.c1 hne, hg.cell (a := ⟨b, o + 2, none⟩) h.c2 hne, hg.cell (a := ⟨b, o + 3, none⟩) h.c3 hne⟩
/-- one struct in a block of its own -/
theorem ris_new {α : Type} (S : Shp α) (w : World) (E : TypeId) (x : α) : RIs S (w.alloc (.cells (S.f x).toArray E)).heap.size (w.alloc (.cells (S.f x).toArray E)) (some ⟨w.heap.size, 0, none⟩) 1 [x] := by
  refine ⟨rfl, by unfold maxLen; omega, fun k hk => ⟨w.heap.size, 0, rfl, by simp, fun i u hu => ?_⟩⟩
  obtain rfl : k = 0 := by simpa using hk
  have h := Box.cell (Box.new w (S.f x) E) i u (by simpa using hu)
  simpa using h
theorem ris_one (w : World) (E : TypeId) (r : Lr) : RIs lrS (w.alloc (.cells #[.bool r.up, .int .i64 r.ep, .int .i64 r.sq, r.v] E)).heap.size (w.alloc (.cells #[.bool r.up, .int .i64 r.ep, .int .i64 r.sq, r.v] E)) (some ⟨w.heap.size, 0, none⟩) 1 [r] := ris_new lrS w E r
theorem ris_ev (w : World) (E : TypeId) (x : Ev) : RIs evS (w.alloc (.cells #[.int .i64 x.i, .int .i64 x.d, .int .i64 x.c, .string x.b, .int .i64 x.a, .int .i64 x.t, .int .i64 x.r, .int .i64 x.n, .int .i64 x.s] E)).heap.size (w.alloc (.cells #[.int .i64 x.i, .int .i64 x.d, .int .i64 x.c, .string x.b, .int .i64 x.a, .int .i64 x.t, .int .i64 x.r, .int .i64 x.n, .int .i64 x.s] E)) (some ⟨w.heap.size, 0, none⟩) 1 [x] := ris_new evS w E x
theorem ROwn.shapeL {α : Type} {S : Shp α} {B : Nat} {w : World} {E : TypeId} {v : Value} {l : List α} (h : ROwn S B w E v l) (n : Nat) (hn : l.length = n) : ∃ a cap, v = .slice a n cap := by
  subst hn
  exact h.shape
theorem flat_lr_one (r : Lr) (h : r.v.oneCell' = true) : ∀ u ∈ flatF lrS [r], u.oneCell' = true := by
  intro u hu
  obtain ⟨t, ht, hu⟩ := List.mem_flatMap.1 hu
  rw [List.mem_singleton.1 ht] at hu
  change u ∈ Lr.vals r at hu
  unfold Lr.vals at hu
  simp only [List.mem_cons, List.mem_nil_iff, or_false] at hu
  rcases hu with rfl | rfl | rfl | rfl
  · rfl
  · rfl
  · rfl
  · exact h
theorem perm_tail (a f e : Rw) (L : List Rw) : (a :: f :: e :: L).Perm (a :: e :: (L ++ [f])) := ((List.Perm.swap e f L).trans ((List.perm_append_singleton f L).symm.cons e)).cons a
theorem perm_rev (a b c d : Rw) (L : List Rw) : (a :: b :: c :: d :: L).Perm (d :: c :: b :: a :: L) := (List.reverse_perm [d, c, b, a]).append_right L
theorem take_snocK {K : List Lk} {j : Nat} (h : j < K.length) : K.take (j + 1) = K.take j ++ [K[j]] := List.take_succ_eq_append_getElem h

set_option maxRecDepth 100000 in
set_option maxHeartbeats 8000000 in
theorem specGCopy_any (w : World) (de qu wi ti qa bu le pb pc pj pt nw la : Int) (ea : Option Addr) (en ec : Nat) (ka : Option Addr) (kn kc : Nat) (tu : Int) (fa : Option Addr) (fn fc : Nat) (ra : Option Addr) (rn rc : Nat) (tk ac dr : Int) (E : List Ev) (K : List Lk) (F R : List Int) (h : GIs w.heap.size w ea en ka kn fa fn ra rn E K F R) (hs : Small en kn fn rn K) :
    Calls Tryd.prog 23 #[.agg #[.int .i64 de, .int .i64 qu, .int .i64 wi, .int .i64 ti, .int .i64 qa, .int .i64 bu, .int .i64 le, .int .i64 pb, .int .i64 pc, .int .i64 pj, .int .i64 pt, .int .i64 nw, .int .i64 la, .slice ea en ec, .slice ka kn kc, .int .i64 tu, .slice fa fn fc, .slice ra rn rc, .int .i64 tk, .int .i64 ac, .int .i64 dr]] w fun e w' => GEnd w w' de qu wi ti qa bu le pb pc pj pt nw la tu tk ac dr E K F R e := by
  obtain ⟨W0, hW0⟩ : ∃ W, W = (w.alloc (.cells #[.int .i64 de, .int .i64 qu, .int .i64 wi, .int .i64 ti, .int .i64 qa, .int .i64 bu, .int .i64 le, .int .i64 pb, .int .i64 pc, .int .i64 pj, .int .i64 pt, .int .i64 nw, .int .i64 la, .slice ea en ec, .slice ka kn kc, .int .i64 tu, .slice fa fn fc, .slice ra rn rc, .int .i64 tk, .int .i64 ac, .int .i64 dr] 33)).alloc (.cells #[.int .i64 0, .int .i64 0, .int .i64 0, .int .i64 0, .int .i64 0, .int .i64 0, .int .i64 0, .int .i64 0, .int .i64 0, .int .i64 0, .int .i64 0, .int .i64 0, .int .i64 0, .slice none 0 0, .slice none 0 0, .int .i64 0, .slice none 0 0, .slice none 0 0, .int .i64 0, .int .i64 0, .int .i64 0] 33) := ⟨_, rfl⟩
  have hb01 := bOne w (.cells #[.int .i64 de, .int .i64 qu, .int .i64 wi, .int .i64 ti, .int .i64 qa, .int .i64 bu, .int .i64 le, .int .i64 pb, .int .i64 pc, .int .i64 pj, .int .i64 pt, .int .i64 nw, .int .i64 la, .slice ea en ec, .slice ka kn kc, .int .i64 tu, .slice fa fn fc, .slice ra rn rc, .int .i64 tk, .int .i64 ac, .int .i64 dr] 33)
  have hb02 := bOne (w.alloc (.cells #[.int .i64 de, .int .i64 qu, .int .i64 wi, .int .i64 ti, .int .i64 qa, .int .i64 bu, .int .i64 le, .int .i64 pb, .int .i64 pc, .int .i64 pj, .int .i64 pt, .int .i64 nw, .int .i64 la, .slice ea en ec, .slice ka kn kc, .int .i64 tu, .slice fa fn fc, .slice ra rn rc, .int .i64 tk, .int .i64 ac, .int .i64 dr] 33)) (.cells #[.int .i64 0, .int .i64 0, .int .i64 0, .int .i64 0, .int .i64 0, .int .i64 0, .int .i64 0, .int .i64 0, .int .i64 0, .int .i64 0, .int .i64 0, .int .i64 0, .int .i64 0, .slice none 0 0, .slice none 0 0, .int .i64 0, .slice none 0 0, .slice none 0 0, .int .i64 0, .int .i64 0, .int .i64 0] 33)
  have HA : Hid (Box W0 w.heap.size 33 [.int .i64 de, .int .i64 qu, .int .i64 wi, .int .i64 ti, .int .i64 qa, .int .i64 bu, .int .i64 le, .int .i64 pb, .int .i64 pc, .int .i64 pj, .int .i64 pt, .int .i64 nw, .int .i64 la, .slice ea en ec, .slice ka kn kc, .int .i64 tu, .slice fa fn fc, .slice ra rn rc, .int .i64 tk, .int .i64 ac, .int .i64 dr]) := Lib.hid (by rw [hW0]; exact (Box.new w [.int .i64 de, .int .i64 qu, .int .i64 wi, .int .i64 ti, .int .i64 qa, .int .i64 bu, .int .i64 le, .int .i64 pb, .int .i64 pc, .int .i64 pj, .int .i64 pt, .int .i64 nw, .int .i64 la, .slice ea en ec, .slice ka kn kc, .int .i64 tu, .slice fa fn fc, .slice ra rn rc, .int .i64 tk, .int .i64 ac, .int .i64 dr] 33).below hb02)
  have HR : Hid (Box W0 (w.heap.size + 1) 33 [.int .i64 0, .int .i64 0, .int .i64 0, .int .i64 0, .int .i64 0, .int .i64 0, .int .i64 0, .int .i64 0, .int .i64 0, .int .i64 0, .int .i64 0, .int .i64 0, .int .i64 0, .slice none 0 0, .slice none 0 0, .int .i64 0, .slice none 0 0, .slice none 0 0, .int .i64 0, .int .i64 0, .int .i64 0]) := Lib.hid (by
    rw [hW0]
    have := Box.new (w.alloc (.cells #[.int .i64 de, .int .i64 qu, .int .i64 wi, .int .i64 ti, .int .i64 qa, .int .i64 bu, .int .i64 le, .int .i64 pb, .int .i64 pc, .int .i64 pj, .int .i64 pt, .int .i64 nw, .int .i64 la, .slice ea en ec, .slice ka kn kc, .int .i64 tu, .slice fa fn fc, .slice ra rn rc, .int .i64 tk, .int .i64 ac, .int .i64 dr] 33)) [.int .i64 0, .int .i64 0, .int .i64 0, .int .i64 0, .int .i64 0, .int .i64 0, .int .i64 0, .int .i64 0, .int .i64 0, .int .i64 0, .int .i64 0, .int .i64 0, .int .i64 0, .slice none 0 0, .slice none 0 0, .int .i64 0, .slice none 0 0, .slice none 0 0, .int .i64 0, .int .i64 0, .int .i64 0] 33
    simpa using this)
  have HL : Hid (Below w.heap.size w W0) := Lib.hid (by rw [hW0]; exact hb01.trans (hb02.mono (by simp)))
  have HS0 := Lib.hid (show W0.heap.size = w.heap.size + 1 + 1 by rw [hW0]; simp)
  have HWE := Lib.hid hW0
  have HG := Lib.hid h
  have HSM := Lib.hid hs
  clear hW0 hb01 hb02 h hs
  go_enter Tryd.func23, Tryd.ntmps23
  go_upto_region 1 with fail
  rw [← HWE.out]
  clear HWE
  go_upto_region 2 with (first | (refine wpList_load_box rfl _ 33 rfl rfl HA.out _ Tryd.underlying33 sizeGate ?_) | (refine wpList_store_box rfl _ _ 33 rfl rfl [.int .i64 de, .int .i64 qu, .int .i64 wi, .int .i64 ti, .int .i64 qa, .int .i64 bu, .int .i64 le, .int .i64 pb, .int .i64 pc, .int .i64 pj, .int .i64 pt, .int .i64 nw, .int .i64 la, .slice ea en ec, .slice ka kn kc, .int .i64 tu, .slice fa fn fc, .slice ra rn rc, .int .i64 tk, .int .i64 ac, .int .i64 dr] rfl (Box.new _ [.int .i64 0, .int .i64 0, .int .i64 0, .int .i64 0, .int .i64 0, .int .i64 0, .int .i64 0, .int .i64 0, .int .i64 0, .int .i64 0, .int .i64 0, .int .i64 0, .int .i64 0, .slice none 0 0, .slice none 0 0, .int .i64 0, .slice none 0 0, .slice none 0 0, .int .i64 0, .int .i64 0, .int .i64 0] 33) sizeGate rfl rfl ?_; intro V1 hXb hgV hlV; have HO := Lib.hid hXb; have HBV := Lib.hid (hlV W0.heap.size W0 (Nat.le_refl _) (bOne W0 _)); clear hXb hgV hlV) | fail)
  simp only [Act.put]
  rw [HS0.out] at HO ⊢
  replace HA := Lib.hid (HA.out.below HBV.out)
  replace HR := Lib.hid (HR.out.below HBV.out)
  replace HL := Lib.hid (low_after HL.out HBV.out)
  clear HBV HS0
  obtain ⟨B1, hB1⟩ : ∃ B, B = V1.heap.size := ⟨_, rfl⟩
  have HB1 := Lib.hid (show (w.heap.size + 1 + 1) < B1 by rw [hB1]; exact HO.out.lt)

  have hb := bOne V1 (.cells #[] 55)
  have c13 := (HA.out.below hb).cell 13 _ rfl
  have HE := Lib.hid (show ROwn evS B1 (V1.alloc (.cells #[] 55)) 55 (.slice (some ⟨B1, 0, none⟩) 0 0) [] by rw [hB1]; exact ROwn.lit V1 _)
  have HT := Lib.hid ((HG.out.ev.below (HL.out.trans (hb.mono HL.out.size))).mono (Nat.le_trans HL.out.size hb.size))
  have HBB := Lib.hid hb
  have HBE := Lib.hid hB1
  have hsz : V1.heap.size = B1 := hB1.symm
  have HAP := Lib.hid (app_row (T := 29) (ty := 29) (cap := ec) evS Tryd.underlying29 infoEvent evZ (by decide) (by omega) HE.out HT.out.row (flat_ev_one E) (by have := HSM.out.1; simp; omega) (by rw [HBE.out]; simp))
  clear hb hB1
  go_upto_region 3 with (first
    | (at_builtin; refine Lnk.wpList_append_run rfl _ _ 29 rfl _ _ rfl rfl HAP.out ?_; intro v' w6 happ; obtain ⟨ea1, ec1, rfl⟩ := ROwn.shape (l := E) happ.1; have hb6 : Below V1.heap.size V1 w6 := HBB.out.grown happ.2.1 HBB.out.size (fun q hq => by cases hq; exact Nat.le_of_eq HBE.out.symm); have HO6 := Lib.hid (HO.out.below hb6); have d13 := HO6.out.cell 13 _ rfl; have f13 := HO6.out.frozen 13; have HB6 := Lib.hid hb6; have HO7 := Lib.hid (show ROwn evS B1 w6 55 (.slice ea1 E.length ec1) E from happ.1); clear happ hb6 c13)
    | fail)
  have hb := HB6.out
  replace HL := Lib.hid (low_after HL.out hb)
  replace HO := Lib.hid HO6.out
  replace HA := Lib.hid (HA.out.below hb)
  replace HR := Lib.hid (HR.out.below hb)
  have HW := Lib.hid (show Rws B1 w6 [evR (.slice ea1 E.length ec1) E] from ⟨fun r hr => by rw [List.mem_singleton.1 hr]; exact HO7.out, List.pairwise_singleton _ _⟩)
  have HBW := Lib.hid (show B1 ≤ w6.heap.size by rw [HBE.out]; exact hb.size)
  clear hb HO6 HO7 HB6 HBB HE HT d13 f13 hsz HBE
  obtain ⟨V3, hV⟩ : ∃ V, V = w6.setCell ⟨w.heap.size + 1 + 1, 13, none⟩ (.slice ea1 E.length ec1) := ⟨_, rfl⟩
  rw [← hV]
  have hg : w6.grownBy V3 (some (w.heap.size + 1 + 1)) := by rw [hV]; exact store_grown [.slice ea1 E.length ec1] 13 _
  replace HL := Lib.hid (show Below w.heap.size w V3 by rw [hV]; exact store_below (by omega) [.slice ea1 E.length ec1] 13 _ _ HL.out)
  replace HO := Lib.hid (show Box V3 (w.heap.size + 1 + 1) 33 [.int .i64 de, .int .i64 qu, .int .i64 wi, .int .i64 ti, .int .i64 qa, .int .i64 bu, .int .i64 le, .int .i64 pb, .int .i64 pc, .int .i64 pj, .int .i64 pt, .int .i64 nw, .int .i64 la, .slice ea1 E.length ec1, .slice ka kn kc, .int .i64 tu, .slice fa fn fc, .slice ra rn rc, .int .i64 tk, .int .i64 ac, .int .i64 dr] by rw [hV]; exact Box.store [.slice ea1 E.length ec1] 13 _ _ HO.out)
  replace HA := Lib.hid (HA.out.grown hg (by simp; omega))
  replace HR := Lib.hid (HR.out.grown hg (by simp))
  replace HW := Lib.hid (HW.out.low hg HB1.out)
  replace HBW := Lib.hid (Nat.le_trans HBW.out hg.size)
  clear hV hg

  have hb := bOne V3 (.cells #[] 44)
  have d14 := (HO.out.below hb).cell 14 _ rfl
  have f14 := (HO.out.below hb).frozen 14
  obtain ⟨kz, hkz⟩ : ∃ k, k = V3.heap.size := ⟨_, rfl⟩
  have HW3 := Lib.hid (show Rws B1 (V3.alloc (.cells #[] 44)) [lrR (.slice (some ⟨kz, 0, none⟩) 0 0) [], evR (.slice ea1 E.length ec1) E] by rw [hkz]; exact HW.out.new (r := lrR (.slice (some ⟨V3.heap.size, 0, none⟩) 0 0) []) hb (ROwn.lit (S := lrS) V3 _) HBW.out)
  have hsz : V3.heap.size = kz := hkz.symm
  clear hkz
  go_upto_region 4 with fail
  replace HL := Lib.hid (low_after HL.out hb)
  replace HO := Lib.hid (HO.out.below hb)
  replace HA := Lib.hid (HA.out.below hb)
  replace HR := Lib.hid (HR.out.below hb)
  replace HBW := Lib.hid (Nat.le_trans HBW.out hb.size)
  replace HW := HW3
  clear hb d14 f14 HW3
  obtain ⟨V4, hV⟩ : ∃ V, V = (V3.alloc (.cells #[] 44)).setCell ⟨w.heap.size + 1 + 1, 14, none⟩ (.slice (some ⟨kz, 0, none⟩) 0 0) := ⟨_, rfl⟩
  rw [← hV]
  have hg : (V3.alloc (.cells #[] 44)).grownBy V4 (some (w.heap.size + 1 + 1)) := by rw [hV]; exact store_grown [.slice (some ⟨kz, 0, none⟩) 0 0] 14 _
  replace HL := Lib.hid (show Below w.heap.size w V4 by rw [hV]; exact store_below (by omega) [.slice (some ⟨kz, 0, none⟩) 0 0] 14 _ _ HL.out)
  replace HO := Lib.hid (show Box V4 (w.heap.size + 1 + 1) 33 [.int .i64 de, .int .i64 qu, .int .i64 wi, .int .i64 ti, .int .i64 qa, .int .i64 bu, .int .i64 le, .int .i64 pb, .int .i64 pc, .int .i64 pj, .int .i64 pt, .int .i64 nw, .int .i64 la, .slice ea1 E.length ec1, .slice (some ⟨kz, 0, none⟩) 0 0, .int .i64 tu, .slice fa fn fc, .slice ra rn rc, .int .i64 tk, .int .i64 ac, .int .i64 dr] by rw [hV]; exact Box.store [.slice (some ⟨kz, 0, none⟩) 0 0] 14 _ _ HO.out)
  replace HA := Lib.hid (HA.out.grown hg (by simp; omega))
  replace HR := Lib.hid (HR.out.grown hg (by simp))
  replace HW := Lib.hid (HW.out.low hg HB1.out)
  replace HBW := Lib.hid (Nat.le_trans HBW.out hg.size)
  clear hV hg
  clear hsz
  have HKN := Lib.hid (show kn ≤ 1048576 from HSM.out.2.1)
  have HKL := Lib.hid HG.out.lk.hlen
  go_upto_region 5 with fail

  go_loopw [4] (fun i wr => ∃ (j : Nat) (ka1 : Option Addr) (kc1 : Nat) (vs : List Value), j ≤ kn ∧ i = .int .i64 j ∧ Hid (vs.length = j) ∧ Hid (Below w.heap.size w wr) ∧ Hid (Box wr w.heap.size 33 [.int .i64 de, .int .i64 qu, .int .i64 wi, .int .i64 ti, .int .i64 qa, .int .i64 bu, .int .i64 le, .int .i64 pb, .int .i64 pc, .int .i64 pj, .int .i64 pt, .int .i64 nw, .int .i64 la, .slice ea en ec, .slice ka kn kc, .int .i64 tu, .slice fa fn fc, .slice ra rn rc, .int .i64 tk, .int .i64 ac, .int .i64 dr]) ∧ Hid (Box wr (w.heap.size + 1) 33 [.int .i64 0, .int .i64 0, .int .i64 0, .int .i64 0, .int .i64 0, .int .i64 0, .int .i64 0, .int .i64 0, .int .i64 0, .int .i64 0, .int .i64 0, .int .i64 0, .int .i64 0, .slice none 0 0, .slice none 0 0, .int .i64 0, .slice none 0 0, .slice none 0 0, .int .i64 0, .int .i64 0, .int .i64 0]) ∧ Hid (Box wr (w.heap.size + 1 + 1) 33 [.int .i64 de, .int .i64 qu, .int .i64 wi, .int .i64 ti, .int .i64 qa, .int .i64 bu, .int .i64 le, .int .i64 pb, .int .i64 pc, .int .i64 pj, .int .i64 pt, .int .i64 nw, .int .i64 la, .slice ea1 E.length ec1, .slice ka1 j kc1, .int .i64 tu, .slice fa fn fc, .slice ra rn rc, .int .i64 tk, .int .i64 ac, .int .i64 dr]) ∧ Hid (Rws B1 wr (lrR (.slice ka1 j kc1) (rawOf (K.take j) vs) :: evR (.slice ea1 E.length ec1) E :: flRs (K.take j) vs)) ∧ Hid (B1 ≤ wr.heap.size)) (fun i _ => kn - (intOf i).toNat)
  case atStart => exact ⟨0, _, _, [], by omega, rfl, Lib.hid rfl, HL, HA, HR, HO, HW, HBW⟩
  case round =>
    obtain ⟨j, ka1, kc1, vs, hj, rfl, HVL, HL, HA, HR, HO, HW, HBW⟩ := hrel
    have c14 := HA.out.cell 14 _ rfl
    have hkm := HKN.out
    by_cases hlt : (j : Int) < (kn : Int)
    · have hjl : j < K.length := by have := HKL.out; omega
      obtain ⟨b, off, up, ep, sq, y, fa0, fl, fc0, rfl, hbl, hlj, hy, c4⟩ := (HG.out.lk.below HL.out).at j hjl
      have HLJ := Lib.hid hlj
      have HBL := Lib.hid hbl
      have HC4 := Lib.hid c4
      have HY := Lib.hid (hy.mono HL.out.size)
      have HYF := Lib.hid (show y.length ≤ 1048576 by have h1 := HSM.out.2.2.1 K[j] (List.getElem_mem _); rw [hlj] at h1; exact h1)
      have HVK := Lib.hid (show vs.length = (K.take j).length by rw [HVL.out, List.length_take]; omega)
      clear hlj hy c4 hbl
      go_upto_region 7 with fail

      have HLO := Lib.hid (lrR_at.1 HW.out.head)
      have hb := below_drew' (Below.refl wr.heap.size wr)
      replace HL := Lib.hid (low_after HL.out hb)
      replace HO := Lib.hid (HO.out.below hb)
      replace HA := Lib.hid (HA.out.below hb)
      replace HR := Lib.hid (HR.out.below hb)
      replace HW := Lib.hid (HW.out.below hb)
      replace HBW := Lib.hid (Nat.le_trans HBW.out hb.size)
      replace HC4 := Lib.hid (c4_below HC4.out hb)
      replace HY := Lib.hid (HY.out.here hb)
      replace HLO := Lib.hid (HLO.out.below hb)
      refine wp_region_held_drew (S := fun w' => w'.cell? ⟨w.heap.size, 14, none⟩ = some (.slice (some ⟨b, off, none⟩) kn kc) ∧ w'.cell? ⟨b, off + j * 4, none⟩ = some (.bool up) ∧ w'.cell? ⟨b, off + j * 4 + 1, none⟩ = some (.int .i64 ep) ∧ w'.cell? ⟨b, off + j * 4 + 2, none⟩ = some (.int .i64 sq) ∧ w'.cell? ⟨b, off + j * 4 + 3, none⟩ = some (.slice fa0 fl fc0)) (by kernel_rfl) ⟨HA.out.cell 14 _ rfl, HC4.out.c0, HC4.out.c1, HC4.out.c2, HC4.out.c3⟩ (fun hHeld => ?_)
      clear c14 hb
      obtain ⟨wd, hwd⟩ : ∃ x, x = wr.drew := ⟨_, rfl⟩
      rw [← hwd] at HL HA HR HO HW HBW HC4 HY HLO hHeld ⊢
      clear hwd
      refine wpAnyH_take (i := 0) (oi := { dst := some _, op := _, type := _, pos := _, after := _, guard := _ }) (v := ?_) rfl (by kernel_rfl) (by kernel_rfl) (by kernel_rfl) (fun _ _ _ h => h) ?_ (by with_reducible assumption) ?_
      rotate_left 1
      focus (refine Or.inl ⟨by rfl, ?_⟩; intro wq hSw; go_simp; try with_reducible rfl)
      try simp only [Act.put, List.setIfInBounds_toArray, List.set_cons_zero, List.set_cons_succ]
      refine wpAnyH_take (i := 2) (oi := { dst := some _, op := _, type := _, pos := _, after := _, guard := _ }) (v := ?_) rfl (by kernel_rfl) (by kernel_rfl) (by kernel_rfl) (fun _ _ _ h => h) ?_ (by with_reducible assumption) ?_
      rotate_left 1
      focus (refine Or.inl ⟨by rfl, ?_⟩; intro wq hSw; go_simp; try with_reducible rfl)
      try simp only [Act.put, List.setIfInBounds_toArray, List.set_cons_zero, List.set_cons_succ]
      refine wpAnyH_take (i := 3) (oi := { dst := some _, op := _, type := _, pos := _, after := _, guard := _ }) (v := ?_) rfl (by kernel_rfl) (by kernel_rfl) (by kernel_rfl) (fun _ _ _ h => h) ?_ (by with_reducible assumption) ?_
      rotate_left 1
      focus (refine Or.inl ⟨by rfl, ?_⟩; intro wq hSw; have q0 := hSw.1; go_simp; try with_reducible rfl)
      try simp only [Act.put, List.setIfInBounds_toArray, List.set_cons_zero, List.set_cons_succ]
      refine wpAnyH_take (i := 4) (oi := { dst := some _, op := _, type := _, pos := _, after := _, guard := _ }) (v := ?_) rfl (by kernel_rfl) (by kernel_rfl) (by kernel_rfl) (fun _ _ _ h => h) ?_ (by with_reducible assumption) ?_
      rotate_left 1
      focus (refine Or.inl ⟨by rfl, ?_⟩; intro wq hSw; go_simp; try with_reducible rfl)
      try simp only [Act.put, List.setIfInBounds_toArray, List.set_cons_zero, List.set_cons_succ]
      refine wpAnyH_take (i := 5) (oi := { dst := some _, op := _, type := _, pos := _, after := _, guard := _ }) (v := ?_) rfl (by kernel_rfl) (by kernel_rfl) (by kernel_rfl) (fun _ _ _ h => h) ?_ (by with_reducible assumption) ?_
      rotate_left 1
      focus (refine Or.inl ⟨by rfl, ?_⟩; intro wq hSw; go_simp; try with_reducible rfl)
      try simp only [Act.put, List.setIfInBounds_toArray, List.set_cons_zero, List.set_cons_succ]
      refine wpAnyH_take (i := 6) (oi := { dst := some _, op := _, type := _, pos := _, after := _, guard := _ }) (v := ?_) rfl (by kernel_rfl) (by kernel_rfl) (by kernel_rfl) (fun _ _ _ h => h) ?_ (by with_reducible assumption) ?_
      rotate_left 1
      focus (refine Or.inl ⟨by rfl, ?_⟩; intro wq hSw; have q1 := hSw.2.1; have q2 := hSw.2.2.1; have q3 := hSw.2.2.2.1; have q4 := hSw.2.2.2.2; go_simp; try with_reducible rfl)
      try simp only [Act.put, List.setIfInBounds_toArray, List.set_cons_zero, List.set_cons_succ]
      refine wpAnyH_ready (rs := [1, 7]) (by kernel_rfl) (by simp) ?_
      refine AllReadyH.cons rfl (fun KL hKL => ?_) ?_
      · have o14 := HO.out.cell 14 _ rfl
        go_simp
        refine hKL.out _ _ (⟨HA.out.cell 14 _ rfl, HC4.out.c0, HC4.out.c1, HC4.out.c2, HC4.out.c3⟩) (fun hHeld => ?_)
        clear hKL
        try simp only [Act.put, List.setIfInBounds_toArray, List.set_cons_zero, List.set_cons_succ]
        clear o14
        refine wpAnyH_ready (rs := [7]) (by kernel_rfl) (by simp) ?_
        refine AllReadyH.cons rfl (fun KC hKC => ?_) AllReadyH.nil
        go_simp
        refine (Lnk.specCopyC_any _ fa0 fl fc0 up ep sq y HY.out (by have := HY.out.hlen; have := HYF.out; omega)).mono ?_
        rintro e v1 ⟨⟨a2, cap2, rfl, ho2⟩, hb⟩
        obtain ⟨n2, hn2⟩ : ∃ n, n = y.length := ⟨_, rfl⟩
        rw [← hn2] at ho2 ⊢
        clear hn2
        replace HW := Lib.hid (HW.out.new (r := flR (.slice a2 n2 cap2) y) hb ho2 HBW.out)
        replace HL := Lib.hid (low_after HL.out hb)
        replace HO := Lib.hid (HO.out.below hb)
        replace HA := Lib.hid (HA.out.below hb)
        replace HR := Lib.hid (HR.out.below hb)
        replace HBW := Lib.hid (Nat.le_trans HBW.out hb.size)
        replace HLO := Lib.hid (HLO.out.below hb)
        replace HC4 := Lib.hid (c4_below HC4.out hb)
        replace HY := Lib.hid (HY.out.here hb)
        clear hb ho2 hHeld
        dsimp only
        refine hKC.out _ _ (⟨HA.out.cell 14 _ rfl, HC4.out.c0, HC4.out.c1, HC4.out.c2, HC4.out.c3⟩) (fun hHeld => ?_)
        clear hKC
        try simp only [Act.put, List.setIfInBounds_toArray, List.set_cons_zero, List.set_cons_succ]
        refine wpAnyH_ready (rs := [8]) (by kernel_rfl) (by simp) ?_
        refine AllReadyH.cons rfl (fun KB hKB => ?_) AllReadyH.nil
        go_simp
        have HT1 := Lib.hid (ris_one v1 44 ⟨up, ep, sq, .slice a2 n2 cap2⟩)
        have hb := bOne v1 (.cells #[.bool up, .int .i64 ep, .int .i64 sq, .slice a2 n2 cap2] 44)
        replace HL := Lib.hid (low_after HL.out hb)
        replace HO := Lib.hid (HO.out.below hb)
        replace HA := Lib.hid (HA.out.below hb)
        replace HR := Lib.hid (HR.out.below hb)
        replace HW := Lib.hid (HW.out.below hb)
        replace HBW := Lib.hid (Nat.le_trans HBW.out hb.size)
        replace HLO := Lib.hid (HLO.out.below hb)
        replace HC4 := Lib.hid (c4_below HC4.out hb)
        replace HY := Lib.hid (HY.out.here hb)
        clear hb hHeld
        refine hKB.out _ _ (⟨HA.out.cell 14 _ rfl, HC4.out.c0, HC4.out.c1, HC4.out.c2, HC4.out.c3⟩) (fun hHeld => ?_)
        clear hKB
        try simp only [Act.put, List.setIfInBounds_toArray, List.set_cons_zero, List.set_cons_succ]
        refine wpAnyH_ready (rs := [9]) (by kernel_rfl) (by simp) ?_
        refine AllReadyH.cons rfl (fun KP hKP => ?_) AllReadyH.nil
        have HAP := Lib.hid (app_row (T := 30) (ty := 30) (cap := 1) (len := 1) lrS Tryd.underlying30 infoLink lrZ (by decide) (by omega) HLO.out HT1.out (flat_lr_one _ rfl) (by rw [rawOf_len HVK.out, List.length_take]; have := HKN.out; omega) HBW.out)
        refine Lnk.step_append_run rfl (.tmp 21) (.tmp 28) _ rfl (.slice ka1 j kc1) (.slice (some ⟨v1.heap.size, 0, none⟩) 1 1) (by simp [Act.eval, Act.put]) (by simp [Act.eval, Act.put]) HAP.out ?_
        intro v' v3 happ
        obtain ⟨ka2, kc2, rfl⟩ := ROwn.shapeL happ.1 (j + 1) (by rw [List.length_append, rawOf_len (by rw [HVL.out, List.length_take]; omega), List.length_take]; simp; omega)
        replace HW := Lib.hid (Rws.first (s := lrR (.slice ka2 (j + 1) kc2) _) (HW.out.perm (perm2 _ _ _)) happ.2.1 happ.1 happ.2.2)
        have hkb : ∀ q, (Value.slice ka1 j kc1).ownBlock = some q → B1 ≤ q := fun q hq => (World.ownsRow.lt HLO.out q hq).1
        have hne : ∀ q, q < B1 → some q ≠ (Value.slice ka1 j kc1).ownBlock := fun q hq e => by have := hkb q e.symm; omega
        have hgz := happ.2.1
        replace HO := Lib.hid (HO.out.grown hgz (hne _ HB1.out))
        replace HA := Lib.hid (HA.out.grown hgz (hne _ (by have := HB1.out; omega)))
        replace HR := Lib.hid (HR.out.grown hgz (hne _ (by have := HB1.out; omega)))
        replace HC4 := Lib.hid (c4_grown HC4.out hgz (hne _ (by have := HB1.out; have := HBL.out; omega)))
        replace HL := Lib.hid (HL.out.grown hgz HL.out.size (fun q hq => by have := hkb q hq; have := HB1.out; omega))
        replace HBW := Lib.hid (Nat.le_trans HBW.out hgz.size)
        clear happ hkb hne hgz hHeld HT1 HAP
        refine hKP.out _ _ (⟨HA.out.cell 14 _ rfl, HC4.out.c0, HC4.out.c1, HC4.out.c2, HC4.out.c3⟩) (fun hHeld => ?_)
        clear hKP
        try simp only [Act.put, List.setIfInBounds_toArray, List.set_cons_zero, List.set_cons_succ]
        refine wpAnyH_take (i := 10) (oi := { dst := some _, op := _, type := _, pos := _, after := _, guard := _ }) (v := ?_) rfl (by kernel_rfl) (by kernel_rfl) (by kernel_rfl) (fun _ _ _ h => h) ?_ (by with_reducible assumption) ?_
        rotate_left 1
        focus (refine Or.inl ⟨by rfl, ?_⟩; intro wq hSw; go_simp; try with_reducible rfl)
        try simp only [Act.put, List.setIfInBounds_toArray, List.set_cons_zero, List.set_cons_succ]
        refine wpAnyH_ready (rs := [11]) (by kernel_rfl) (by simp) ?_
        refine AllReadyH.cons rfl (fun KS hKS => ?_) AllReadyH.nil
        have o14 := HO.out.cell 14 _ rfl
        have g14 := HO.out.frozen 14
        go_simp
        obtain ⟨v9, hV⟩ : ∃ V, V = v3.setCell ⟨w.heap.size + 1 + 1, 14, none⟩ (.slice ka2 (j + 1) kc2) := ⟨_, rfl⟩
        rw [← hV]
        have hg : v3.grownBy v9 (some (w.heap.size + 1 + 1)) := by rw [hV]; exact store_grown [.slice ka2 (j + 1) kc2] 14 _
        replace HL := Lib.hid (show Below w.heap.size w v9 by rw [hV]; exact store_below (by omega) [.slice ka2 (j + 1) kc2] 14 _ _ HL.out)
        replace HO := Lib.hid (show Box v9 (w.heap.size + 1 + 1) 33 [.int .i64 de, .int .i64 qu, .int .i64 wi, .int .i64 ti, .int .i64 qa, .int .i64 bu, .int .i64 le, .int .i64 pb, .int .i64 pc, .int .i64 pj, .int .i64 pt, .int .i64 nw, .int .i64 la, .slice ea1 E.length ec1, .slice ka2 (j + 1) kc2, .int .i64 tu, .slice fa fn fc, .slice ra rn rc, .int .i64 tk, .int .i64 ac, .int .i64 dr] by rw [hV]; exact Box.store [.slice ka2 (j + 1) kc2] 14 _ _ HO.out)
        replace HA := Lib.hid (HA.out.grown hg (by simp; omega))
        replace HR := Lib.hid (HR.out.grown hg (by simp))
        replace HW := Lib.hid (HW.out.low hg HB1.out)
        replace HC4 := Lib.hid (c4_grown HC4.out hg (by have := HBL.out; simp; omega))
        replace HBW := Lib.hid (Nat.le_trans HBW.out hg.size)
        clear hV hg
        clear o14 g14
        refine hKS.out _ _ (⟨HA.out.cell 14 _ rfl, HC4.out.c0, HC4.out.c1, HC4.out.c2, HC4.out.c3⟩) (fun hHeld => ?_)
        clear hKS
        try simp only [Act.put, List.setIfInBounds_toArray, List.set_cons_zero, List.set_cons_succ]
        refine wpAnyH_done (by kernel_rfl) ?_ _
        go_wp2_with fail
        go_roundw
        case rel => exact ⟨j + 1, ka2, kc2, vs ++ [.slice a2 n2 cap2], by omega, by go_num, Lib.hid (by rw [List.length_append, HVL.out]; rfl), HL, HA, HR, HO, Lib.hid (by rw [take_snocK hjl, HLJ.out, rawOf_snoc HVK.out, flRs_snoc HVK.out]; exact HW.out.perm (perm_tail _ _ _ _)), HBW⟩
        case measure => simp [intOf]; omega
      · refine AllReadyH.cons rfl (fun KC hKC => ?_) AllReadyH.nil
        go_simp
        refine (Lnk.specCopyC_any _ fa0 fl fc0 up ep sq y HY.out (by have := HY.out.hlen; have := HYF.out; omega)).mono ?_
        rintro e v1 ⟨⟨a2, cap2, rfl, ho2⟩, hb⟩
        obtain ⟨n2, hn2⟩ : ∃ n, n = y.length := ⟨_, rfl⟩
        rw [← hn2] at ho2 ⊢
        clear hn2
        replace HW := Lib.hid (HW.out.new (r := flR (.slice a2 n2 cap2) y) hb ho2 HBW.out)
        replace HL := Lib.hid (low_after HL.out hb)
        replace HO := Lib.hid (HO.out.below hb)
        replace HA := Lib.hid (HA.out.below hb)
        replace HR := Lib.hid (HR.out.below hb)
        replace HBW := Lib.hid (Nat.le_trans HBW.out hb.size)
        replace HLO := Lib.hid (HLO.out.below hb)
        replace HC4 := Lib.hid (c4_below HC4.out hb)
        replace HY := Lib.hid (HY.out.here hb)
        clear hb ho2 hHeld
        dsimp only
        refine hKC.out _ _ (⟨HA.out.cell 14 _ rfl, HC4.out.c0, HC4.out.c1, HC4.out.c2, HC4.out.c3⟩) (fun hHeld => ?_)
        clear hKC
        try simp only [Act.put, List.setIfInBounds_toArray, List.set_cons_zero, List.set_cons_succ]
        refine wpAnyH_ready (rs := [1, 8]) (by kernel_rfl) (by simp) ?_
        refine AllReadyH.cons rfl (fun KL hKL => ?_) ?_
        · have o14 := HO.out.cell 14 _ rfl
          go_simp
          refine hKL.out _ _ (⟨HA.out.cell 14 _ rfl, HC4.out.c0, HC4.out.c1, HC4.out.c2, HC4.out.c3⟩) (fun hHeld => ?_)
          clear hKL
          try simp only [Act.put, List.setIfInBounds_toArray, List.set_cons_zero, List.set_cons_succ]
          clear o14
          refine wpAnyH_ready (rs := [8]) (by kernel_rfl) (by simp) ?_
          refine AllReadyH.cons rfl (fun KB hKB => ?_) AllReadyH.nil
          go_simp
          have HT1 := Lib.hid (ris_one v1 44 ⟨up, ep, sq, .slice a2 n2 cap2⟩)
          have hb := bOne v1 (.cells #[.bool up, .int .i64 ep, .int .i64 sq, .slice a2 n2 cap2] 44)
          replace HL := Lib.hid (low_after HL.out hb)
          replace HO := Lib.hid (HO.out.below hb)
          replace HA := Lib.hid (HA.out.below hb)
          replace HR := Lib.hid (HR.out.below hb)
          replace HW := Lib.hid (HW.out.below hb)
          replace HBW := Lib.hid (Nat.le_trans HBW.out hb.size)
          replace HLO := Lib.hid (HLO.out.below hb)
          replace HC4 := Lib.hid (c4_below HC4.out hb)
          replace HY := Lib.hid (HY.out.here hb)
          clear hb hHeld
          refine hKB.out _ _ (⟨HA.out.cell 14 _ rfl, HC4.out.c0, HC4.out.c1, HC4.out.c2, HC4.out.c3⟩) (fun hHeld => ?_)
          clear hKB
          try simp only [Act.put, List.setIfInBounds_toArray, List.set_cons_zero, List.set_cons_succ]
          refine wpAnyH_ready (rs := [9]) (by kernel_rfl) (by simp) ?_
          refine AllReadyH.cons rfl (fun KP hKP => ?_) AllReadyH.nil
          have HAP := Lib.hid (app_row (T := 30) (ty := 30) (cap := 1) (len := 1) lrS Tryd.underlying30 infoLink lrZ (by decide) (by omega) HLO.out HT1.out (flat_lr_one _ rfl) (by rw [rawOf_len HVK.out, List.length_take]; have := HKN.out; omega) HBW.out)
          refine Lnk.step_append_run rfl (.tmp 21) (.tmp 28) _ rfl (.slice ka1 j kc1) (.slice (some ⟨v1.heap.size, 0, none⟩) 1 1) (by simp [Act.eval, Act.put]) (by simp [Act.eval, Act.put]) HAP.out ?_
          intro v' v3 happ
          obtain ⟨ka2, kc2, rfl⟩ := ROwn.shapeL happ.1 (j + 1) (by rw [List.length_append, rawOf_len (by rw [HVL.out, List.length_take]; omega), List.length_take]; simp; omega)
          replace HW := Lib.hid (Rws.first (s := lrR (.slice ka2 (j + 1) kc2) _) (HW.out.perm (perm2 _ _ _)) happ.2.1 happ.1 happ.2.2)
          have hkb : ∀ q, (Value.slice ka1 j kc1).ownBlock = some q → B1 ≤ q := fun q hq => (World.ownsRow.lt HLO.out q hq).1
          have hne : ∀ q, q < B1 → some q ≠ (Value.slice ka1 j kc1).ownBlock := fun q hq e => by have := hkb q e.symm; omega
          have hgz := happ.2.1
          replace HO := Lib.hid (HO.out.grown hgz (hne _ HB1.out))
          replace HA := Lib.hid (HA.out.grown hgz (hne _ (by have := HB1.out; omega)))
          replace HR := Lib.hid (HR.out.grown hgz (hne _ (by have := HB1.out; omega)))
          replace HC4 := Lib.hid (c4_grown HC4.out hgz (hne _ (by have := HB1.out; have := HBL.out; omega)))
          replace HL := Lib.hid (HL.out.grown hgz HL.out.size (fun q hq => by have := hkb q hq; have := HB1.out; omega))
          replace HBW := Lib.hid (Nat.le_trans HBW.out hgz.size)
          clear happ hkb hne hgz hHeld HT1 HAP
          refine hKP.out _ _ (⟨HA.out.cell 14 _ rfl, HC4.out.c0, HC4.out.c1, HC4.out.c2, HC4.out.c3⟩) (fun hHeld => ?_)
          clear hKP
          try simp only [Act.put, List.setIfInBounds_toArray, List.set_cons_zero, List.set_cons_succ]
          refine wpAnyH_take (i := 10) (oi := { dst := some _, op := _, type := _, pos := _, after := _, guard := _ }) (v := ?_) rfl (by kernel_rfl) (by kernel_rfl) (by kernel_rfl) (fun _ _ _ h => h) ?_ (by with_reducible assumption) ?_
          rotate_left 1
          focus (refine Or.inl ⟨by rfl, ?_⟩; intro wq hSw; go_simp; try with_reducible rfl)
          try simp only [Act.put, List.setIfInBounds_toArray, List.set_cons_zero, List.set_cons_succ]
          refine wpAnyH_ready (rs := [11]) (by kernel_rfl) (by simp) ?_
          refine AllReadyH.cons rfl (fun KS hKS => ?_) AllReadyH.nil
          have o14 := HO.out.cell 14 _ rfl
          have g14 := HO.out.frozen 14
          go_simp
          obtain ⟨v9, hV⟩ : ∃ V, V = v3.setCell ⟨w.heap.size + 1 + 1, 14, none⟩ (.slice ka2 (j + 1) kc2) := ⟨_, rfl⟩
          rw [← hV]
          have hg : v3.grownBy v9 (some (w.heap.size + 1 + 1)) := by rw [hV]; exact store_grown [.slice ka2 (j + 1) kc2] 14 _
          replace HL := Lib.hid (show Below w.heap.size w v9 by rw [hV]; exact store_below (by omega) [.slice ka2 (j + 1) kc2] 14 _ _ HL.out)
          replace HO := Lib.hid (show Box v9 (w.heap.size + 1 + 1) 33 [.int .i64 de, .int .i64 qu, .int .i64 wi, .int .i64 ti, .int .i64 qa, .int .i64 bu, .int .i64 le, .int .i64 pb, .int .i64 pc, .int .i64 pj, .int .i64 pt, .int .i64 nw, .int .i64 la, .slice ea1 E.length ec1, .slice ka2 (j + 1) kc2, .int .i64 tu, .slice fa fn fc, .slice ra rn rc, .int .i64 tk, .int .i64 ac, .int .i64 dr] by rw [hV]; exact Box.store [.slice ka2 (j + 1) kc2] 14 _ _ HO.out)
          replace HA := Lib.hid (HA.out.grown hg (by simp; omega))
          replace HR := Lib.hid (HR.out.grown hg (by simp))
          replace HW := Lib.hid (HW.out.low hg HB1.out)
          replace HC4 := Lib.hid (c4_grown HC4.out hg (by have := HBL.out; simp; omega))
          replace HBW := Lib.hid (Nat.le_trans HBW.out hg.size)
          clear hV hg
          clear o14 g14
          refine hKS.out _ _ (⟨HA.out.cell 14 _ rfl, HC4.out.c0, HC4.out.c1, HC4.out.c2, HC4.out.c3⟩) (fun hHeld => ?_)
          clear hKS
          try simp only [Act.put, List.setIfInBounds_toArray, List.set_cons_zero, List.set_cons_succ]
          refine wpAnyH_done (by kernel_rfl) ?_ _
          go_wp2_with fail
          go_roundw
          case rel => exact ⟨j + 1, ka2, kc2, vs ++ [.slice a2 n2 cap2], by omega, by go_num, Lib.hid (by rw [List.length_append, HVL.out]; rfl), HL, HA, HR, HO, Lib.hid (by rw [take_snocK hjl, HLJ.out, rawOf_snoc HVK.out, flRs_snoc HVK.out]; exact HW.out.perm (perm_tail _ _ _ _)), HBW⟩
          case measure => simp [intOf]; omega
        · refine AllReadyH.cons rfl (fun KB hKB => ?_) AllReadyH.nil
          go_simp
          have HT1 := Lib.hid (ris_one v1 44 ⟨up, ep, sq, .slice a2 n2 cap2⟩)
          have hb := bOne v1 (.cells #[.bool up, .int .i64 ep, .int .i64 sq, .slice a2 n2 cap2] 44)
          replace HL := Lib.hid (low_after HL.out hb)
          replace HO := Lib.hid (HO.out.below hb)
          replace HA := Lib.hid (HA.out.below hb)
          replace HR := Lib.hid (HR.out.below hb)
          replace HW := Lib.hid (HW.out.below hb)
          replace HBW := Lib.hid (Nat.le_trans HBW.out hb.size)
          replace HLO := Lib.hid (HLO.out.below hb)
          replace HC4 := Lib.hid (c4_below HC4.out hb)
          replace HY := Lib.hid (HY.out.here hb)
          clear hb hHeld
          refine hKB.out _ _ (⟨HA.out.cell 14 _ rfl, HC4.out.c0, HC4.out.c1, HC4.out.c2, HC4.out.c3⟩) (fun hHeld => ?_)
          clear hKB
          try simp only [Act.put, List.setIfInBounds_toArray, List.set_cons_zero, List.set_cons_succ]
          refine wpAnyH_ready (rs := [1]) (by kernel_rfl) (by simp) ?_
          refine AllReadyH.cons rfl (fun KL hKL => ?_) AllReadyH.nil
          have o14 := HO.out.cell 14 _ rfl
          go_simp
          refine hKL.out _ _ (⟨HA.out.cell 14 _ rfl, HC4.out.c0, HC4.out.c1, HC4.out.c2, HC4.out.c3⟩) (fun hHeld => ?_)
          clear hKL
          try simp only [Act.put, List.setIfInBounds_toArray, List.set_cons_zero, List.set_cons_succ]
          clear o14
          refine wpAnyH_ready (rs := [9]) (by kernel_rfl) (by simp) ?_
          refine AllReadyH.cons rfl (fun KP hKP => ?_) AllReadyH.nil
          have HAP := Lib.hid (app_row (T := 30) (ty := 30) (cap := 1) (len := 1) lrS Tryd.underlying30 infoLink lrZ (by decide) (by omega) HLO.out HT1.out (flat_lr_one _ rfl) (by rw [rawOf_len HVK.out, List.length_take]; have := HKN.out; omega) HBW.out)
          refine Lnk.step_append_run rfl (.tmp 21) (.tmp 28) _ rfl (.slice ka1 j kc1) (.slice (some ⟨v1.heap.size, 0, none⟩) 1 1) (by simp [Act.eval, Act.put]) (by simp [Act.eval, Act.put]) HAP.out ?_
          intro v' v3 happ
          obtain ⟨ka2, kc2, rfl⟩ := ROwn.shapeL happ.1 (j + 1) (by rw [List.length_append, rawOf_len (by rw [HVL.out, List.length_take]; omega), List.length_take]; simp; omega)
          replace HW := Lib.hid (Rws.first (s := lrR (.slice ka2 (j + 1) kc2) _) (HW.out.perm (perm2 _ _ _)) happ.2.1 happ.1 happ.2.2)
          have hkb : ∀ q, (Value.slice ka1 j kc1).ownBlock = some q → B1 ≤ q := fun q hq => (World.ownsRow.lt HLO.out q hq).1
          have hne : ∀ q, q < B1 → some q ≠ (Value.slice ka1 j kc1).ownBlock := fun q hq e => by have := hkb q e.symm; omega
          have hgz := happ.2.1
          replace HO := Lib.hid (HO.out.grown hgz (hne _ HB1.out))
          replace HA := Lib.hid (HA.out.grown hgz (hne _ (by have := HB1.out; omega)))
          replace HR := Lib.hid (HR.out.grown hgz (hne _ (by have := HB1.out; omega)))
          replace HC4 := Lib.hid (c4_grown HC4.out hgz (hne _ (by have := HB1.out; have := HBL.out; omega)))
          replace HL := Lib.hid (HL.out.grown hgz HL.out.size (fun q hq => by have := hkb q hq; have := HB1.out; omega))
          replace HBW := Lib.hid (Nat.le_trans HBW.out hgz.size)
          clear happ hkb hne hgz hHeld HT1 HAP
          refine hKP.out _ _ (⟨HA.out.cell 14 _ rfl, HC4.out.c0, HC4.out.c1, HC4.out.c2, HC4.out.c3⟩) (fun hHeld => ?_)
          clear hKP
          try simp only [Act.put, List.setIfInBounds_toArray, List.set_cons_zero, List.set_cons_succ]
          refine wpAnyH_take (i := 10) (oi := { dst := some _, op := _, type := _, pos := _, after := _, guard := _ }) (v := ?_) rfl (by kernel_rfl) (by kernel_rfl) (by kernel_rfl) (fun _ _ _ h => h) ?_ (by with_reducible assumption) ?_
          rotate_left 1
          focus (refine Or.inl ⟨by rfl, ?_⟩; intro wq hSw; go_simp; try with_reducible rfl)
          try simp only [Act.put, List.setIfInBounds_toArray, List.set_cons_zero, List.set_cons_succ]
          refine wpAnyH_ready (rs := [11]) (by kernel_rfl) (by simp) ?_
          refine AllReadyH.cons rfl (fun KS hKS => ?_) AllReadyH.nil
          have o14 := HO.out.cell 14 _ rfl
          have g14 := HO.out.frozen 14
          go_simp
          obtain ⟨v9, hV⟩ : ∃ V, V = v3.setCell ⟨w.heap.size + 1 + 1, 14, none⟩ (.slice ka2 (j + 1) kc2) := ⟨_, rfl⟩
          rw [← hV]
          have hg : v3.grownBy v9 (some (w.heap.size + 1 + 1)) := by rw [hV]; exact store_grown [.slice ka2 (j + 1) kc2] 14 _
          replace HL := Lib.hid (show Below w.heap.size w v9 by rw [hV]; exact store_below (by omega) [.slice ka2 (j + 1) kc2] 14 _ _ HL.out)
          replace HO := Lib.hid (show Box v9 (w.heap.size + 1 + 1) 33 [.int .i64 de, .int .i64 qu, .int .i64 wi, .int .i64 ti, .int .i64 qa, .int .i64 bu, .int .i64 le, .int .i64 pb, .int .i64 pc, .int .i64 pj, .int .i64 pt, .int .i64 nw, .int .i64 la, .slice ea1 E.length ec1, .slice ka2 (j + 1) kc2, .int .i64 tu, .slice fa fn fc, .slice ra rn rc, .int .i64 tk, .int .i64 ac, .int .i64 dr] by rw [hV]; exact Box.store [.slice ka2 (j + 1) kc2] 14 _ _ HO.out)
          replace HA := Lib.hid (HA.out.grown hg (by simp; omega))
          replace HR := Lib.hid (HR.out.grown hg (by simp))
          replace HW := Lib.hid (HW.out.low hg HB1.out)
          replace HC4 := Lib.hid (c4_grown HC4.out hg (by have := HBL.out; simp; omega))
          replace HBW := Lib.hid (Nat.le_trans HBW.out hg.size)
          clear hV hg
          clear o14 g14
          refine hKS.out _ _ (⟨HA.out.cell 14 _ rfl, HC4.out.c0, HC4.out.c1, HC4.out.c2, HC4.out.c3⟩) (fun hHeld => ?_)
          clear hKS
          try simp only [Act.put, List.setIfInBounds_toArray, List.set_cons_zero, List.set_cons_succ]
          refine wpAnyH_done (by kernel_rfl) ?_ _
          go_wp2_with fail
          go_roundw
          case rel => exact ⟨j + 1, ka2, kc2, vs ++ [.slice a2 n2 cap2], by omega, by go_num, Lib.hid (by rw [List.length_append, HVL.out]; rfl), HL, HA, HR, HO, Lib.hid (by rw [take_snocK hjl, HLJ.out, rawOf_snoc HVK.out, flRs_snoc HVK.out]; exact HW.out.perm (perm_tail _ _ _ _)), HBW⟩
          case measure => simp [intOf]; omega

    · obtain rfl : j = K.length := by have := HKL.out; omega
      have HTK := Lib.hid (show K.take K.length = K from List.take_length)
      rw [HTK.out] at HW
      go_upto_region 8 with fail
      clear hkm c14 HTK hj hlt HKN

      have HBW0 := HBW
      have hb := bOne wr (.cells #[] 3)
      have c16 := (HA.out.below hb).cell 16 _ rfl
      obtain ⟨kz, hkz⟩ : ∃ k, k = wr.heap.size := ⟨_, rfl⟩
      have HE := Lib.hid (show ROwn inS kz (wr.alloc (.cells #[] 3)) 3 (.slice (some ⟨kz, 0, none⟩) 0 0) [] by rw [hkz]; exact ROwn.lit (S := inS) wr _)
      have HT := Lib.hid (iis_row ((HG.out.lf.below (HL.out.trans (hb.mono HL.out.size))).mono (Nat.le_trans HL.out.size hb.size)) HG.out.fle)
      have HBB := Lib.hid hb
      have HKZ := Lib.hid hkz
      have hsz : wr.heap.size = kz := hkz.symm
      have HAP := Lib.hid (app_row (T := 31) (ty := 31) (cap := fc) inS Tryd.underlying31 infoInt' inZ (by decide) (by omega) HE.out HT.out (flat_in_one F) (by have := HSM.out.2.2.2.1; simp; omega) (by rw [HKZ.out]; simp))
      clear hb hkz
      go_upto_region 9 with (first
        | (at_builtin; refine Lnk.wpList_append_run rfl _ _ 31 rfl _ _ rfl rfl HAP.out ?_; intro v' w6 happ; obtain ⟨fa1, fc1, rfl⟩ := ROwn.shape (l := F) happ.1; have hb6 : Below wr.heap.size wr w6 := HBB.out.grown happ.2.1 HBB.out.size (fun q hq => by cases hq; exact Nat.le_of_eq HKZ.out.symm); have HO6 := Lib.hid (HO.out.below hb6); have d16 := HO6.out.cell 16 _ rfl; have f16 := HO6.out.frozen 16; have HB6 := Lib.hid hb6; have HO7 := Lib.hid (show (inR (.slice fa1 F.length fc1) F).At wr.heap.size w6 from by have h7 : ROwn inS kz w6 3 (.slice fa1 F.length fc1) F := happ.1; rw [HKZ.out] at h7; exact inR_at.2 (iown_row.2 h7)); clear happ hb6 c16)
        | fail)
      have hb := HB6.out
      replace HL := Lib.hid (low_after HL.out hb)
      replace HO := Lib.hid (HO.out.below hb)
      replace HA := Lib.hid (HA.out.below hb)
      replace HR := Lib.hid (HR.out.below hb)
      replace HBW := Lib.hid (Nat.le_trans HBW.out hb.size)
      replace HW := Lib.hid (HW.out.new hb HO7.out (Nat.le_trans HBW0.out (Nat.le_refl _)))
      clear hb HO6 HO7 HB6 HBB HE HT HAP d16 f16 hsz HKZ HBW0
      obtain ⟨V8, hV⟩ : ∃ V, V = w6.setCell ⟨w.heap.size + 1 + 1, 16, none⟩ (.slice fa1 F.length fc1) := ⟨_, rfl⟩
      rw [← hV]
      have hg : w6.grownBy V8 (some (w.heap.size + 1 + 1)) := by rw [hV]; exact store_grown [.slice fa1 F.length fc1] 16 _
      replace HL := Lib.hid (show Below w.heap.size w V8 by rw [hV]; exact store_below (by omega) [.slice fa1 F.length fc1] 16 _ _ HL.out)
      replace HO := Lib.hid (show Box V8 (w.heap.size + 1 + 1) 33 [.int .i64 de, .int .i64 qu, .int .i64 wi, .int .i64 ti, .int .i64 qa, .int .i64 bu, .int .i64 le, .int .i64 pb, .int .i64 pc, .int .i64 pj, .int .i64 pt, .int .i64 nw, .int .i64 la, .slice ea1 E.length ec1, .slice ka1 K.length kc1, .int .i64 tu, .slice fa1 F.length fc1, .slice ra rn rc, .int .i64 tk, .int .i64 ac, .int .i64 dr] by rw [hV]; exact Box.store [.slice fa1 F.length fc1] 16 _ _ HO.out)
      replace HA := Lib.hid (HA.out.grown hg (by simp; omega))
      replace HR := Lib.hid (HR.out.grown hg (by simp))
      replace HW := Lib.hid (HW.out.low hg HB1.out)
      replace HBW := Lib.hid (Nat.le_trans HBW.out hg.size)
      clear hV hg
      have HBW0 := HBW
      have hb := bOne V8 (.cells #[] 3)
      have c17 := (HA.out.below hb).cell 17 _ rfl
      obtain ⟨kz, hkz⟩ : ∃ k, k = V8.heap.size := ⟨_, rfl⟩
      have HE := Lib.hid (show ROwn inS kz (V8.alloc (.cells #[] 3)) 3 (.slice (some ⟨kz, 0, none⟩) 0 0) [] by rw [hkz]; exact ROwn.lit (S := inS) V8 _)
      have HT := Lib.hid (iis_row ((HG.out.lt.below (HL.out.trans (hb.mono HL.out.size))).mono (Nat.le_trans HL.out.size hb.size)) HG.out.rle)
      have HBB := Lib.hid hb
      have HKZ := Lib.hid hkz
      have hsz : V8.heap.size = kz := hkz.symm
      have HAP := Lib.hid (app_row (T := 31) (ty := 31) (cap := rc) inS Tryd.underlying31 infoInt' inZ (by decide) (by omega) HE.out HT.out (flat_in_one R) (by have := HSM.out.2.2.2.2; simp; omega) (by rw [HKZ.out]; simp))
      clear hb hkz
      go_upto_region 10 with (first
        | (at_builtin; refine Lnk.wpList_append_run rfl _ _ 31 rfl _ _ rfl rfl HAP.out ?_; intro v' w6 happ; obtain ⟨ra1, rc1, rfl⟩ := ROwn.shape (l := R) happ.1; have hb6 : Below V8.heap.size V8 w6 := HBB.out.grown happ.2.1 HBB.out.size (fun q hq => by cases hq; exact Nat.le_of_eq HKZ.out.symm); have HO6 := Lib.hid (HO.out.below hb6); have d17 := HO6.out.cell 17 _ rfl; have f17 := HO6.out.frozen 17; have HB6 := Lib.hid hb6; have HO7 := Lib.hid (show (inR (.slice ra1 R.length rc1) R).At V8.heap.size w6 from by have h7 : ROwn inS kz w6 3 (.slice ra1 R.length rc1) R := happ.1; rw [HKZ.out] at h7; exact inR_at.2 (iown_row.2 h7)); clear happ hb6 c17)
        | fail)
      have hb := HB6.out
      replace HL := Lib.hid (low_after HL.out hb)
      replace HO := Lib.hid (HO.out.below hb)
      replace HA := Lib.hid (HA.out.below hb)
      replace HR := Lib.hid (HR.out.below hb)
      replace HBW := Lib.hid (Nat.le_trans HBW.out hb.size)
      replace HW := Lib.hid (HW.out.new hb HO7.out (Nat.le_trans HBW0.out (Nat.le_refl _)))
      clear hb HO6 HO7 HB6 HBB HE HT HAP d17 f17 hsz HKZ HBW0
      obtain ⟨V9, hV⟩ : ∃ V, V = w6.setCell ⟨w.heap.size + 1 + 1, 17, none⟩ (.slice ra1 R.length rc1) := ⟨_, rfl⟩
      rw [← hV]
      have hg : w6.grownBy V9 (some (w.heap.size + 1 + 1)) := by rw [hV]; exact store_grown [.slice ra1 R.length rc1] 17 _
      replace HL := Lib.hid (show Below w.heap.size w V9 by rw [hV]; exact store_below (by omega) [.slice ra1 R.length rc1] 17 _ _ HL.out)
      replace HO := Lib.hid (show Box V9 (w.heap.size + 1 + 1) 33 [.int .i64 de, .int .i64 qu, .int .i64 wi, .int .i64 ti, .int .i64 qa, .int .i64 bu, .int .i64 le, .int .i64 pb, .int .i64 pc, .int .i64 pj, .int .i64 pt, .int .i64 nw, .int .i64 la, .slice ea1 E.length ec1, .slice ka1 K.length kc1, .int .i64 tu, .slice fa1 F.length fc1, .slice ra1 R.length rc1, .int .i64 tk, .int .i64 ac, .int .i64 dr] by rw [hV]; exact Box.store [.slice ra1 R.length rc1] 17 _ _ HO.out)
      replace HA := Lib.hid (HA.out.grown hg (by simp; omega))
      replace HR := Lib.hid (HR.out.grown hg (by simp))
      replace HW := Lib.hid (HW.out.low hg HB1.out)
      replace HBW := Lib.hid (Nat.le_trans HBW.out hg.size)
      clear hV hg

      go_wp2_with (first | (refine wpList_load_box rfl _ 33 rfl rfl HO.out _ Tryd.underlying33 sizeGate ?_) | (refine wpList_store_box rfl _ _ 33 rfl rfl [.int .i64 de, .int .i64 qu, .int .i64 wi, .int .i64 ti, .int .i64 qa, .int .i64 bu, .int .i64 le, .int .i64 pb, .int .i64 pc, .int .i64 pj, .int .i64 pt, .int .i64 nw, .int .i64 la, .slice ea1 E.length ec1, .slice ka1 K.length kc1, .int .i64 tu, .slice fa1 F.length fc1, .slice ra1 R.length rc1, .int .i64 tk, .int .i64 ac, .int .i64 dr] rfl HR.out sizeGate rfl rfl ?_; intro V hXb hgV hlV) | fail)
      exact bodyPost_ret (v := .agg #[.int .i64 de, .int .i64 qu, .int .i64 wi, .int .i64 ti, .int .i64 qa, .int .i64 bu, .int .i64 le, .int .i64 pb, .int .i64 pc, .int .i64 pj, .int .i64 pt, .int .i64 nw, .int .i64 la, .slice ea1 E.length ec1, .slice ka1 K.length kc1, .int .i64 tu, .slice fa1 F.length fc1, .slice ra1 R.length rc1, .int .i64 tk, .int .i64 ac, .int .i64 dr]) (results_box _ Tryd.results23 rfl hXb _ Tryd.underlying33 sizeGate) rfl ⟨⟨ea1, ec1, ka1, kc1, fa1, fc1, ra1, rc1, vs, rfl, ⟨((HW.out.perm (perm_rev _ _ _ _ _)).low hgV (by have := HB1.out; omega)).base (by have := HB1.out; omega), HVL.out, HG.out.ev.body⟩⟩, hlV w.heap.size w (by omega) HL.out⟩

end Go.Proofs.YtkndpkingmemoaaDoor.Gat
