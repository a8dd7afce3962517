/-
  A wheel in a box that was made ahead of its list or behind it: what a region that draws its order leaves.
-/
import Derived.Test.YtkoliacbajpijaaDoorExA
namespace Go.Proofs.YtkoliacbajpijaaDoor.Whl
open Go.RowKit Go.Maps
set_option linter.unusedVariables false

/-- a fresh box, at nought -/
structure Bz (w : World) (k : Nat) : Prop where
  box : Bx w k (.int .i64 0) (.slice none 0 0)
  fro : Bf w k
theorem Bz.new (w : World) : Bz (w.alloc (.cells #[.int .i64 0, .slice none 0 0] 26)) w.heap.size := ⟨Bx.new w _ _ _, Bf.new w _ _⟩
theorem Bz.below {w w1 : World} {k : Nat} (h : Bz w k) (hb : Below w.heap.size w w1) : Bz w1 k := ⟨h.box.below hb, h.fro.low hb h.box.lt⟩
theorem Bz.cells {w : World} {k : Nat} (h : Bz w k) : w.cell? ⟨k, 0, none⟩ = some (.int .i64 0) ∧ w.cell? ⟨k, 1, none⟩ = some (.slice none 0 0) ∧ w.frozen? ⟨k, 0, none⟩ = false ∧ w.frozen? ⟨k, 1, none⟩ = false ∧ k < w.heap.size :=
  ⟨h.box.c0, h.box.c1, h.fro.f0, h.fro.f1, h.box.lt⟩
theorem Bz.step1 {w w1 : World} {k : Nat} (h : Bz w k) (hb : Below w.heap.size w w1) : Bz w1 k ∧ k < w.heap.size := ⟨h.below hb, h.box.lt⟩
theorem Bz.step2 {w w1 : World} (hb : Below (w.alloc (.cells #[.int .i64 0, .slice none 0 0] 26)).heap.size (w.alloc (.cells #[.int .i64 0, .slice none 0 0] 26)) w1) : Bz w1 w.heap.size ∧ w.heap.size < (w.alloc (.cells #[.int .i64 0, .slice none 0 0] 26)).heap.size :=
  ⟨(Bz.new w).below hb, by simp⟩
theorem Bz.step3 {w w1 : World} (hb : Below (w.alloc (.cells #[.int .i64 0, .slice none 0 0] 26)).drew.heap.size (w.alloc (.cells #[.int .i64 0, .slice none 0 0] 26)).drew w1) : Bz w1 w.heap.size ∧ w.heap.size < (w.alloc (.cells #[.int .i64 0, .slice none 0 0] 26)).drew.heap.size := by
  have h : Bz (w.alloc (.cells #[.int .i64 0, .slice none 0 0] 26)).drew w.heap.size := ⟨⟨(Bz.new w).box.c0, (Bz.new w).box.c1, (Bz.new w).box.lt⟩, ⟨(Bz.new w).fro.f0, (Bz.new w).fro.f1⟩⟩
  exact ⟨h.below hb, h.box.lt⟩
theorem low_put {W w3 : World} {k : Nat} (h : Below W.heap.size W w3) (hk : W.heap.size ≤ k) (u v : Value) : Below W.heap.size W ((w3.setCell ⟨k, 0, none⟩ u).setCell ⟨k, 1, none⟩ v) :=
  (h.setCell (by exact hk) _).setCell (by exact hk) _
structure Wc (w : World) (k B E : Nat) (now : Int) (a : Option Addr) (n cap : Nat) (S : List T) : Prop where
  box : Bx w k (.int .i64 now) (.slice a n cap)
  own : TOwn B w 28 (.slice a n cap) S
  ne : ∀ j, (Value.slice a n cap).ownBlock = some j → j ≠ k ∧ j < E
  lo : B ≤ k
  hi : k < E
section
variable {w w1 w3 : World} {k B E Bc n cap : Nat} {now : Int} {a : Option Addr} {S S' : List T} {r : Option Nat}
theorem Wc.new (h : TOwn Bc w3 28 (.slice a n cap) S) (hB : B ≤ Bc) (hc : Bc ≤ w3.heap.size) (now : Int) :
    Wc (w3.alloc (.cells #[.int .i64 now, .slice a n cap] 26)) w3.heap.size B (w3.alloc (.cells #[.int .i64 now, .slice a n cap] 26)).heap.size now a n cap S :=
  ⟨Bx.new w3 _ _ _, (h.below (bOne _ _)).base hB, fun j hj => by have := (World.ownsRow.lt h j hj).2; simp; omega, by omega, by simp⟩
theorem Wc.put (hz : Bz w3 k) (h : TOwn Bc w3 28 (.slice a n cap) S) (hk : k < Bc) (hB : B ≤ k) (now : Int) :
    Wc ((w3.setCell ⟨k, 0, none⟩ (.int .i64 now)).setCell ⟨k, 1, none⟩ (.slice a n cap)) k B ((w3.setCell ⟨k, 0, none⟩ (.int .i64 now)).setCell ⟨k, 1, none⟩ (.slice a n cap)).heap.size now a n cap S := by
  refine ⟨⟨?_, ?_, ?_⟩, ((h.setLow (by exact hk) _).setLow (by exact hk) _).base (by omega), fun j hj => ?_, hB, ?_⟩
  · rw [World.cell?_setCell_other _ _ _ _ (by simp)]
    exact World.cell?_setCell_same' _ _ _ (by rw [hz.box.c0]; rfl)
  · refine World.cell?_setCell_same' _ _ _ ?_
    rw [World.cell?_setCell_other _ _ _ _ (by simp), hz.box.c1]
    rfl
  · simpa using hz.box.lt
  · have := World.ownsRow.lt h j hj
    simp
    omega
  · simpa using hz.box.lt
theorem Wc.below (h : Wc w k B E now a n cap S) (hb : Below w.heap.size w w1) : Wc w1 k B E now a n cap S := ⟨h.box.below hb, h.own.below hb, h.ne, h.lo, h.hi⟩
theorem Wc.ge (h : Wc w k B E now a n cap S) : ∀ j, (Value.slice a n cap).ownBlock = some j → B ≤ j := fun j hj => (World.ownsRow.lt h.own j hj).1
theorem Wc.grown (h : Wc w k B E now a n cap S) (hg : w.grownBy w1 r) (hk : r ≠ some k) (ho : ∀ j, (Value.slice a n cap).ownBlock = some j → r ≠ some j) : Wc w1 k B E now a n cap S := by
  refine ⟨h.box.grown hg hk, h.own.grown hg ?_, h.ne, h.lo, h.hi⟩
  cases hv : (Value.slice a n cap).ownBlock with
  | none => exact .inl rfl
  | some j => exact .inr (Ne.symm (ho j hv))
theorem Wc.mark_lo (h : Wc w k B E now a n cap S) (hg : w.grownBy w1 r) (hr : ∀ j, r = some j → E ≤ j) : Wc w1 k B E now a n cap S :=
  h.grown hg (fun e => by have := hr k e; have := h.hi; omega) (fun j hj e => by have := hr j e; have := (h.ne j hj).2; omega)
theorem Wc.mark_hi (h : Wc w k B E now a n cap S) (hg : w.grownBy w1 r) (hr : ∀ j, r = some j → j < B) : Wc w1 k B E now a n cap S :=
  h.grown hg (fun e => by have := hr k e; have := h.lo; omega) (fun j hj e => by have := hr j e; have := h.ge j hj; omega)
theorem Wc.mark (h : Wc w k B E now a n cap S) (ho : TOwn B w1 28 (.slice a n cap) S') (hg : w.grownBy w1 (Value.slice a n cap).ownBlock) : Wc w1 k B E now a n cap S' :=
  ⟨h.box.grown hg (fun e => (h.ne k e).1 rfl), ho, h.ne, h.lo, h.hi⟩
theorem Wc.is (h : Wc w k B E now a n cap S) : TIs w.heap.size w a n S := h.own.isN
theorem Wc.cells (h : Wc w k B E now a n cap S) : w.cell? ⟨k, 0, none⟩ = some (.int .i64 now) ∧ w.cell? ⟨k, 1, none⟩ = some (.slice a n cap) ∧ k < w.heap.size := ⟨h.box.c0, h.box.c1, h.box.lt⟩
end
end Go.Proofs.YtkoliacbajpijaaDoor.Whl
