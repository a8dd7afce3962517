/-
  A link in a box of its own, whose list is new, and ints beside it: what the exact laws hold of each of their answers.
-/
import Derived.Test.YtjfhdelphfgojaaLkI
import Derived.Test.YtjfhdelphfgojaaLkP
import Derived.Test.YtjfhdelphfgojaaLkC
namespace Go.Proofs.Ytjfhdelphfgojaa.Lnk
open Go.RowKit
set_option linter.unusedVariables false

/-- the box k, made behind its list, which lies from B on -/
structure W4 (w : World) (k B : Nat) (up : Bool) (ep sq : Int) (a : Option Addr) (n cap : Nat) (S : List Y) : Prop where
  box : B4 w k up ep sq (.slice a n cap)
  own : YOwn B w 40 (.slice a n cap) S
  hi : ∀ j, (Value.slice a n cap).ownBlock = some j → j < k
  lo : B ≤ k
/-- ints of an answer, made ahead of the box k -/
structure Ib (w : World) (k B : Nat) (vi : Value) (xs : List Int) : Prop where
  own : IOwn B w vi xs
  hi : ∀ j, vi.ownBlock = some j → j < k
section
variable {w w1 : World} {k B n cap : Nat} {up : Bool} {ep sq : Int} {a : Option Addr} {S S' : List Y} {r : Option Nat} {vi : Value} {xs xs' : List Int}
theorem W4.new (h : YOwn B w 40 (.slice a n cap) S) (hB : B ≤ w.heap.size) (up : Bool) (ep sq : Int) : W4 (w.alloc (.cells #[.bool up, .int .i64 ep, .int .i64 sq, .slice a n cap] 26)) w.heap.size B up ep sq a n cap S :=
  ⟨B4.new w _ _ _ _ _, h.below (bOne _ _), fun j hj => (World.ownsRow.lt h j hj).2, hB⟩
theorem W4.below (h : W4 w k B up ep sq a n cap S) (hb : Below w.heap.size w w1) : W4 w1 k B up ep sq a n cap S := ⟨h.box.below hb, h.own.below hb, h.hi, h.lo⟩
theorem W4.ge (h : W4 w k B up ep sq a n cap S) : ∀ j, (Value.slice a n cap).ownBlock = some j → B ≤ j := fun j hj => (World.ownsRow.lt h.own j hj).1
theorem W4.grown (h : W4 w k B up ep sq a n cap S) (hg : w.grownBy w1 r) (hk : r ≠ some k) (ho : ∀ j, (Value.slice a n cap).ownBlock = some j → r ≠ some j) : W4 w1 k B up ep sq a n cap S := by
  refine ⟨h.box.grown hg hk, h.own.grown hg ?_, h.hi, h.lo⟩
  cases hv : (Value.slice a n cap).ownBlock with
  | none => exact .inl rfl
  | some j => exact .inr (Ne.symm (ho j hv))
/-- what lies behind it is written -/
theorem W4.mark_lo (h : W4 w k B up ep sq a n cap S) (hg : w.grownBy w1 r) (hr : ∀ j, r = some j → k < j) : W4 w1 k B up ep sq a n cap S :=
  h.grown hg (fun e => by have := hr k e; omega) (fun j hj e => by have := hr j e; have := h.hi j hj; omega)
/-- what lies ahead of it is written -/
theorem W4.mark_hi (h : W4 w k B up ep sq a n cap S) (hg : w.grownBy w1 r) (hr : ∀ j, r = some j → j < B) : W4 w1 k B up ep sq a n cap S :=
  h.grown hg (fun e => by have := hr k e; have := h.lo; omega) (fun j hj e => by have := hr j e; have := h.ge j hj; omega)
/-- its own list is written -/
theorem W4.mark (h : W4 w k B up ep sq a n cap S) (ho : YOwn B w1 40 (.slice a n cap) S') (hg : w.grownBy w1 (Value.slice a n cap).ownBlock) : W4 w1 k B up ep sq a n cap S' :=
  ⟨h.box.grown hg (fun e => by have := h.hi k e; omega), ho, h.hi, h.lo⟩
theorem W4.is (h : W4 w k B up ep sq a n cap S) : YIs w.heap.size w a n S := h.own.isN
theorem W4.cells (h : W4 w k B up ep sq a n cap S) : w.cell? ⟨k, 0, none⟩ = some (.bool up) ∧ w.cell? ⟨k, 1, none⟩ = some (.int .i64 ep) ∧ w.cell? ⟨k, 2, none⟩ = some (.int .i64 sq) ∧ w.cell? ⟨k, 3, none⟩ = some (.slice a n cap) ∧ k < w.heap.size := h.box.cells
theorem Ib.new (h : IOwn B w vi xs) (o : Obj) : Ib (w.alloc o) w.heap.size B vi xs := ⟨h.below (bOne _ _), fun j hj => (World.ownsRow.lt h j hj).2⟩
theorem Ib.below (h : Ib w k B vi xs) (hb : Below w.heap.size w w1) : Ib w1 k B vi xs := ⟨h.own.below hb, h.hi⟩
theorem Ib.ge (h : Ib w k B vi xs) : ∀ j, vi.ownBlock = some j → B ≤ j := fun j hj => (World.ownsRow.lt h.own j hj).1
theorem Ib.grown (h : Ib w k B vi xs) (hg : w.grownBy w1 r) (ho : ∀ j, vi.ownBlock = some j → r ≠ some j) : Ib w1 k B vi xs := by
  refine ⟨h.own.grown hg ?_, h.hi⟩
  cases hv : vi.ownBlock with
  | none => exact .inl rfl
  | some j => exact .inr (Ne.symm (ho j hv))
theorem Ib.mark_lo (h : Ib w k B vi xs) (hg : w.grownBy w1 r) (hr : ∀ j, r = some j → k ≤ j) : Ib w1 k B vi xs :=
  h.grown hg (fun j hj e => by have := hr j e; have := h.hi j hj; omega)
theorem Ib.mark_hi (h : Ib w k B vi xs) (hg : w.grownBy w1 r) (hr : ∀ j, r = some j → j < B) : Ib w1 k B vi xs :=
  h.grown hg (fun j hj e => by have := hr j e; have := h.ge j hj; omega)
/-- the flies beside it are written -/
theorem Ib.mark_t {B' : Nat} {v : Value} (h : Ib w k B vi xs) (ht : YOwn B' w 40 v S) (hg : w.grownBy w1 v.ownBlock) : Ib w1 k B vi xs :=
  h.grown hg (fun j hj e => by
    rcases own_sep (by decide) ht h.own with h1 | h1
    · rw [h1] at hj; cases hj
    · exact h1 (by rw [hj, e]))
/-- its own ints are written -/
theorem Ib.mark (h : Ib w k B vi xs) (ho : IOwn B w1 vi xs') : Ib w1 k B vi xs' := ⟨ho, h.hi⟩
/-- the ints beside it are written -/
theorem W4.mark_i {Bi ki : Nat} (h : W4 w k B up ep sq a n cap S) (hi : Ib w ki Bi vi xs) (hk : ki ≤ k) (hg : w.grownBy w1 vi.ownBlock) : W4 w1 k B up ep sq a n cap S :=
  h.grown hg (fun e => by have := hi.hi k e; omega) (fun j hj e => by
    rcases own_sep (by decide) h.own hi.own with h1 | h1
    · rw [h1] at e; cases e
    · exact h1 (by rw [hj, e]))
theorem Ib.is {a : Option Addr} {n cap : Nat} (h : Ib w k B (.slice a n cap) xs) : IIs w.heap.size w a n xs := h.own.isN
end
section
variable (up : Bool) (ep sq : Int) (l : List Y)
theorem fgtL_len (id : Int) : (fgtL up ep sq l id).length ≤ l.length := by unfold fgtL; split; exact stayL_len _ _; exact Nat.le_refl _
theorem ansL_len (e seq : Int) : (ansL up ep sq l e seq).length ≤ l.length := by unfold ansL; split; exact stayL_len _ _; exact Nat.le_refl _
theorem latL_len (now : Int) : (latL up ep sq l now).length ≤ l.length := by unfold latL; split; exact stayL_len _ _; exact Nat.le_refl _
theorem lauL_len (id un : Int) : (lauL up ep sq l id un).length ≤ l.length + 1 := by unfold lauL; split <;> simp
theorem joL_len : (joL up ep sq l).length ≤ l.length := by unfold joL; split <;> simp
theorem leL_len : (leL up ep sq l).length ≤ l.length := by unfold leL; split <;> simp
theorem latI_len (now : Int) : (latI up ep sq l now).length ≤ l.length := by unfold latI; split; simpa [idsL] using goneL_len _ _; simp
theorem joI_len : (joI up ep sq l).length ≤ l.length := by unfold joI; split <;> simp [idsL]
theorem leI_len : (leI up ep sq l).length ≤ l.length := by unfold leI; split <;> simp [idsL]
end
end Go.Proofs.Ytjfhdelphfgojaa.Lnk
