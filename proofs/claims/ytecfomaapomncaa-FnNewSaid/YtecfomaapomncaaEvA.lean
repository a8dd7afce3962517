/-
  Plain facts on messages: when one is right, open, too old, ready; its box.
-/
import Derived.Test.YtecfomaapomncaaProg
import Derived.WalkKit
import Derived.WalkSpells
import Derived.WalkLawsBesides
import Derived.Lib.Hide
import Derived.Deep.QuietTactic
import Derived.BigQuiet
import Derived.Below
import Derived.IntWalk
import Derived.Lib.Strings
namespace Go.Proofs.Ytecfomaapomncaa.Evt
open Go.RowKit
set_option linter.unusedVariables false

theorem bool_iff {p q : Prop} [Decidable p] [Decidable q] (h : p ↔ q) : Ending.returned (.bool (decide p)) = Ending.returned (.bool (decide q)) := by rw [decide_eq_decide.2 h]
theorem bool_no {p : Prop} [Decidable p] (h : ¬ p) : Ending.returned (.bool false) = Ending.returned (.bool (decide p)) := by rw [decide_eq_false h]
theorem bool_yes {p : Prop} [Decidable p] (h : p) : Ending.returned (.bool true) = Ending.returned (.bool (decide p)) := by rw [decide_eq_true h]
theorem bOne (w : World) (o : Obj) : Below w.heap.size w (w.alloc o) := (Below.refl _ _).alloc (Nat.le_refl _) _
theorem bAfter {B : Nat} {a w w' : World} (h : Below B a w) (h2 : Below w.heap.size w w') (hB : B ≤ w.heap.size) : Below B a w' := h.trans (h2.mono hB)

/-- a right message, m bytes in its body -/
def EOk (i d c : Int) (m : Nat) (a t r n s : Int) : Prop :=
  1 ≤ i ∧ i ≤ 9999 ∧ 1 ≤ d ∧ d ≤ 6 ∧ 1 ≤ c ∧ c ≤ 9 ∧ m ≤ 40 ∧ 0 ≤ a ∧ a ≤ 1000000000 ∧ 1 ≤ t ∧ t ≤ 1000000 ∧ 0 ≤ r ∧ r ≤ 100000 ∧ 0 ≤ n ∧ n ≤ 2000000000 ∧ 0 ≤ s ∧ s ≤ 3
instance (i d c : Int) (m : Nat) (a t r n s : Int) : Decidable (EOk i d c m a t r n s) := by unfold EOk; infer_instance
def eokB (i d c : Int) (m : Nat) (a t r n s : Int) : Bool := decide (EOk i d c m a t r n s)
theorem eokB_yes {i d c : Int} {m : Nat} {a t r n s : Int} (h : EOk i d c m a t r n s) : eokB i d c m a t r n s = true := decide_eq_true h
theorem eokB_no {i d c : Int} {m : Nat} {a t r n s : Int} (h : ¬ EOk i d c m a t r n s) : eokB i d c m a t r n s = false := decide_eq_false h
/-- the times of a right message -/
def TOk (a t n : Int) : Prop := 0 ≤ a ∧ a ≤ 1000000000 ∧ 1 ≤ t ∧ t ≤ 1000000 ∧ 0 ≤ n ∧ n ≤ 2000000000
instance (a t n : Int) : Decidable (TOk a t n) := by unfold TOk; infer_instance
def tokB (a t n : Int) : Bool := decide (TOk a t n)
def inB (lo hi x : Int) : Bool := decide (lo ≤ x ∧ x ≤ hi)
/-- the tries behind a knock -/
def upT (r : Int) : Int := if r < 100000 then r + 1 else 100000
/-- the status behind Back -/
def bk (s : Int) : Int := if s = 1 then 0 else s

/-- a message's value -/
abbrev ev (i d c : Int) (b : ByteArray) (a t r n s : Int) : Value := .agg #[.int .i64 i, .int .i64 d, .int .i64 c, .string b, .int .i64 a, .int .i64 t, .int .i64 r, .int .i64 n, .int .i64 s]
/-- a message's box -/
structure B9 (w : World) (k : Nat) (i d c : Int) (b : ByteArray) (a t r n s : Int) : Prop where
  c0 : w.cell? ⟨k, 0, none⟩ = some (.int .i64 i)
  c1 : w.cell? ⟨k, 1, none⟩ = some (.int .i64 d)
  c2 : w.cell? ⟨k, 2, none⟩ = some (.int .i64 c)
  c3 : w.cell? ⟨k, 3, none⟩ = some (.string b)
  c4 : w.cell? ⟨k, 4, none⟩ = some (.int .i64 a)
  c5 : w.cell? ⟨k, 5, none⟩ = some (.int .i64 t)
  c6 : w.cell? ⟨k, 6, none⟩ = some (.int .i64 r)
  c7 : w.cell? ⟨k, 7, none⟩ = some (.int .i64 n)
  c8 : w.cell? ⟨k, 8, none⟩ = some (.int .i64 s)
  lt : k < w.heap.size
theorem B9.new (w : World) (i d c : Int) (b : ByteArray) (a t r n s : Int) (ty : TypeId) : B9 (w.alloc (.cells #[.int .i64 i, .int .i64 d, .int .i64 c, .string b, .int .i64 a, .int .i64 t, .int .i64 r, .int .i64 n, .int .i64 s] ty)) w.heap.size i d c b a t r n s :=
  ⟨cell_of_row _ _ 0 _ ty (0, 0) (heap_alloc_new w _), cell_of_row _ _ 1 _ ty (0, 0) (heap_alloc_new w _), cell_of_row _ _ 2 _ ty (0, 0) (heap_alloc_new w _), cell_of_row _ _ 3 _ ty (0, 0) (heap_alloc_new w _), cell_of_row _ _ 4 _ ty (0, 0) (heap_alloc_new w _), cell_of_row _ _ 5 _ ty (0, 0) (heap_alloc_new w _), cell_of_row _ _ 6 _ ty (0, 0) (heap_alloc_new w _), cell_of_row _ _ 7 _ ty (0, 0) (heap_alloc_new w _), cell_of_row _ _ 8 _ ty (0, 0) (heap_alloc_new w _), by simp⟩
theorem B9.below {w w' : World} {k : Nat} {i d c : Int} {b : ByteArray} {a t r n s : Int} (h : B9 w k i d c b a t r n s) (hb : Below w.heap.size w w') : B9 w' k i d c b a t r n s :=
  ⟨(hb.cell (p := ⟨k, 0, none⟩) h.lt).trans h.c0, (hb.cell (p := ⟨k, 1, none⟩) h.lt).trans h.c1, (hb.cell (p := ⟨k, 2, none⟩) h.lt).trans h.c2, (hb.cell (p := ⟨k, 3, none⟩) h.lt).trans h.c3, (hb.cell (p := ⟨k, 4, none⟩) h.lt).trans h.c4, (hb.cell (p := ⟨k, 5, none⟩) h.lt).trans h.c5, (hb.cell (p := ⟨k, 6, none⟩) h.lt).trans h.c6, (hb.cell (p := ⟨k, 7, none⟩) h.lt).trans h.c7, (hb.cell (p := ⟨k, 8, none⟩) h.lt).trans h.c8, Nat.lt_of_lt_of_le h.lt hb.size⟩
end Go.Proofs.Ytecfomaapomncaa.Evt
