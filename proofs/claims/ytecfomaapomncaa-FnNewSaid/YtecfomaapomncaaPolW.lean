/-
  The walks of PolicyOk and Longest, of the program and of the specification, and of the laws FnExactPolicyOk and FnExactLongest.
-/
import Derived.Test.YtecfomaapomncaaProg
import Derived.WalkKit
import Derived.WalkSpells
import Derived.WalkLawsBesides
import Derived.Lib.Hide
import Derived.Deep.QuietTactic
import Derived.BigQuiet
import Derived.Below
import Derived.IntWalk
namespace Go.Proofs.Ytecfomaapomncaa.Pol
open Go.RowKit
set_option linter.unusedVariables false

/-- a right policy -/
def PolOk (b c j t : Int) : Prop := 1 ≤ b ∧ b ≤ c ∧ c ≤ 100000 ∧ 0 ≤ j ∧ j ≤ 1000 ∧ 1 ≤ t ∧ t ≤ 1000000
instance (b c j t : Int) : Decidable (PolOk b c j t) := by unfold PolOk; infer_instance
def polB (b c j t : Int) : Bool := decide (PolOk b c j t)
/-- the value of a policy -/
def pv (b c j t : Int) : Value := .agg #[.int .i64 b, .int .i64 c, .int .i64 j, .int .i64 t]

theorem bool_iff {p q : Prop} [Decidable p] [Decidable q] (h : p ↔ q) : Ending.returned (.bool (decide p)) = Ending.returned (.bool (decide q)) := by rw [decide_eq_decide.2 h]
theorem bool_no {p : Prop} [Decidable p] (h : ¬ p) : Ending.returned (.bool false) = Ending.returned (.bool (decide p)) := by rw [decide_eq_false h]

theorem in_any (x a b : Int) (w : World) :
    Calls Try.prog 35 #[.int .i64 x, .int .i64 a, .int .i64 b] w fun e w' => e = .returned (.bool (decide (a ≤ x ∧ x ≤ b))) ∧ w = w' := by
  go_enter Try.func35, Try.ntmps35
  go_wp2
  all_goals
    go_ret
    refine ⟨?_, rfl⟩
    first
      | exact bool_iff (by omega)
      | exact bool_no (by omega)
      | (simp; intro; omega)

theorem implOk_any (b c j t : Int) (w : World) :
    Calls Try.prog 34 #[.agg #[.int .i64 b, .int .i64 c, .int .i64 j, .int .i64 t]] w fun e w' => e = .returned (.bool (polB b c j t)) ∧ Below w.heap.size w w' := by
  go_enter Try.func34, Try.ntmps34
  go_wp2
  all_goals
    go_ret
    refine ⟨?_, (Below.refl _ _).alloc (Nat.le_refl _) _⟩
    unfold polB
    first
      | exact bool_iff (by unfold PolOk; omega)
      | exact bool_no (by unfold PolOk; omega)

theorem toPolicy_any (b c j t : Int) (w : World) :
    Calls Try.prog 48 #[.agg #[.int .i64 b, .int .i64 c, .int .i64 j, .int .i64 t]] w fun e w' => e = .returned (.agg #[.int .i64 b, .int .i64 c, .int .i64 j, .int .i64 t]) ∧ Below w.heap.size w w' := by
  go_enter Try.func48, Try.ntmps48
  go_wp2
  refine bodyPost_ret (v := .agg #[.int .i64 b, .int .i64 c, .int .i64 j, .int .i64 t]) (by simp [results, Try.results48, go_sem]) rfl ⟨rfl, ?_⟩
  repeat' first
    | exact Below.refl _ _
    | refine Below.setCell ?_ (by simp; try omega) _
    | refine Below.alloc ?_ (by simp; try omega) _
    | refine Below.drew ?_

theorem specOk_any (b c j t : Int) (w : World) :
    Calls Try.prog 36 #[.agg #[.int .i64 b, .int .i64 c, .int .i64 j, .int .i64 t]] w fun e w' => e = .returned (.bool (polB b c j t)) ∧ Below w.heap.size w w' := by
  go_enter Try.func36, Try.ntmps36
  go_wp2
  all_goals
    go_ret
    refine ⟨?_, (Below.refl _ _).alloc (Nat.le_refl _) _⟩
    unfold polB
    first
      | exact bool_iff (by unfold PolOk; omega)
      | exact bool_no (by unfold PolOk; omega)

/-- a policy's box -/
structure B4 (w : World) (k : Nat) (b c j t : Int) : Prop where
  c0 : w.cell? ⟨k, 0, none⟩ = some (.int .i64 b)
  c1 : w.cell? ⟨k, 1, none⟩ = some (.int .i64 c)
  c2 : w.cell? ⟨k, 2, none⟩ = some (.int .i64 j)
  c3 : w.cell? ⟨k, 3, none⟩ = some (.int .i64 t)
  lt : k < w.heap.size
theorem B4.new (w : World) (b c j t : Int) (ty : TypeId) : B4 (w.alloc (.cells #[.int .i64 b, .int .i64 c, .int .i64 j, .int .i64 t] ty)) w.heap.size b c j t :=
  ⟨cell_of_row _ _ 0 _ ty (0, 0) (heap_alloc_new w _), cell_of_row _ _ 1 _ ty (0, 0) (heap_alloc_new w _), cell_of_row _ _ 2 _ ty (0, 0) (heap_alloc_new w _), cell_of_row _ _ 3 _ ty (0, 0) (heap_alloc_new w _), by simp⟩
theorem B4.below {w w' : World} {k : Nat} {b c j t : Int} (h : B4 w k b c j t) (hb : Below w.heap.size w w') : B4 w' k b c j t :=
  ⟨(hb.cell (p := ⟨k, 0, none⟩) h.lt).trans h.c0, (hb.cell (p := ⟨k, 1, none⟩) h.lt).trans h.c1, (hb.cell (p := ⟨k, 2, none⟩) h.lt).trans h.c2, (hb.cell (p := ⟨k, 3, none⟩) h.lt).trans h.c3, Nat.lt_of_lt_of_le h.lt hb.size⟩
theorem bOne (w : World) (o : Obj) : Below w.heap.size w (w.alloc o) := (Below.refl _ _).alloc (Nat.le_refl _) _
theorem bAfter {B : Nat} {a w w' : World} (h : Below B a w) (h2 : Below w.heap.size w w') (hB : B ≤ w.heap.size) : Below B a w' := h.trans (h2.mono hB)
def longI (b c j t : Int) : Int := if PolOk b c j t then c + j else 0
theorem polB_yes {b c j t : Int} (h : PolOk b c j t) : polB b c j t = true := decide_eq_true h
theorem polB_no {b c j t : Int} (h : ¬ PolOk b c j t) : polB b c j t = false := decide_eq_false h

end Go.Proofs.Ytecfomaapomncaa.Pol
