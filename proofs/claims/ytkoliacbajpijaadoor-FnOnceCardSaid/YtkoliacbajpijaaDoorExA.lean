/-
  A wheel in a box of its own, whose list is new: what the exact laws hold of each of their answers.
-/
import Derived.Test.YtkoliacbajpijaaDoorMrkW
import Derived.Test.YtkoliacbajpijaaDoorMkA
namespace Go.Proofs.YtkoliacbajpijaaDoor.Whl
open Go.RowKit Go.Maps
set_option linter.unusedVariables false

theorem TOwn.isN {B : Nat} {w : World} {E : TypeId} {a : Option Addr} {n cap : Nat} {l : List T} (h : TOwn B w E (.slice a n cap) l) : TIs w.heap.size w a n l := by
  have h1 := h.is
  rw [h1.1]
  exact h1.2
theorem TOwn.nilcap {B : Nat} {w : World} {E : TypeId} {a : Option Addr} {n cap : Nat} {l : List T} (h : TOwn B w E (.slice a n cap) l) : a = none → cap = 0 := by
  rintro rfl
  rcases h.2 with ⟨e, h0⟩ | ⟨g, c, cur, e, _⟩
  · simp only [Value.slice.injEq] at e
    exact e.2.2
  · simp at e
/-- the box k, made behind its list, which lies from B on -/
structure Wb (w : World) (k B : Nat) (now : Int) (a : Option Addr) (n cap : Nat) (S : List T) : Prop where
  box : Bx w k (.int .i64 now) (.slice a n cap)
  own : TOwn B w 28 (.slice a n cap) S
  hi : ∀ j, (Value.slice a n cap).ownBlock = some j → j < k
  lo : B ≤ k
section
variable {w w1 : World} {k B n cap : Nat} {now : Int} {a : Option Addr} {S S' : List T} {r : Option Nat}
theorem Wb.new (h : TOwn B w 28 (.slice a n cap) S) (hB : B ≤ w.heap.size) (now : Int) : Wb (w.alloc (.cells #[.int .i64 now, .slice a n cap] 26)) w.heap.size B now a n cap S :=
  ⟨Bx.new w _ _ _, h.below (bOne _ _), fun j hj => (World.ownsRow.lt h j hj).2, hB⟩
theorem Wb.below (h : Wb w k B now a n cap S) (hb : Below w.heap.size w w1) : Wb w1 k B now a n cap S := ⟨h.box.below hb, h.own.below hb, h.hi, h.lo⟩
theorem Wb.ge (h : Wb w k B now a n cap S) : ∀ j, (Value.slice a n cap).ownBlock = some j → B ≤ j := fun j hj => (World.ownsRow.lt h.own j hj).1
theorem Wb.grown (h : Wb w k B now a n cap S) (hg : w.grownBy w1 r) (hk : r ≠ some k) (ho : ∀ j, (Value.slice a n cap).ownBlock = some j → r ≠ some j) : Wb w1 k B now a n cap S := by
  refine ⟨h.box.grown hg hk, h.own.grown hg ?_, h.hi, h.lo⟩
  cases hv : (Value.slice a n cap).ownBlock with
  | none => exact .inl rfl
  | some j => exact .inr (Ne.symm (ho j hv))
/-- what lies behind it is written -/
theorem Wb.mark_lo (h : Wb w k B now a n cap S) (hg : w.grownBy w1 r) (hr : ∀ j, r = some j → k < j) : Wb w1 k B now a n cap S :=
  h.grown hg (fun e => by have := hr k e; omega) (fun j hj e => by have := hr j e; have := h.hi j hj; omega)
/-- what lies ahead of it is written -/
theorem Wb.mark_hi (h : Wb w k B now a n cap S) (hg : w.grownBy w1 r) (hr : ∀ j, r = some j → j < B) : Wb w1 k B now a n cap S :=
  h.grown hg (fun e => by have := hr k e; have := h.lo; omega) (fun j hj e => by have := hr j e; have := h.ge j hj; omega)
/-- its own list is written -/
theorem Wb.mark (h : Wb w k B now a n cap S) (ho : TOwn B w1 28 (.slice a n cap) S') (hg : w.grownBy w1 (Value.slice a n cap).ownBlock) : Wb w1 k B now a n cap S' :=
  ⟨h.box.grown hg (fun e => by have := h.hi k e; omega), ho, h.hi, h.lo⟩
theorem Wb.is (h : Wb w k B now a n cap S) : TIs w.heap.size w a n S := h.own.isN
theorem Wb.cells (h : Wb w k B now a n cap S) : w.cell? ⟨k, 0, none⟩ = some (.int .i64 now) ∧ w.cell? ⟨k, 1, none⟩ = some (.slice a n cap) ∧ k < w.heap.size := ⟨h.box.c0, h.box.c1, h.box.lt⟩
theorem low_grown {W : World} (h : Below W.heap.size W w) (hg : w.grownBy w1 r) (hr : ∀ j, r = some j → W.heap.size ≤ j) : Below W.heap.size W w1 := h.grown hg h.size hr
theorem low_alloc {W : World} (h : Below W.heap.size W w) (o : Obj) : Below W.heap.size W (w.alloc o) := h.alloc h.size _
theorem low_after {W : World} (h : Below W.heap.size W w) (h2 : Below w.heap.size w w1) : Below W.heap.size W w1 := bAfter h h2 h.size
end
end Go.Proofs.YtkoliacbajpijaaDoor.Whl
