/-
  Maps of the call's own with keys of int: a set of ids.
-/
import Derived.Test.YtecfomaapomncaaLkA
import Derived.Maps.OwnSet
import Derived.WalkArith
namespace Go.Proofs.Ytecfomaapomncaa.Lnk
open Go.RowKit Go.Maps
set_option linter.unusedVariables false

theorem keyInt : Keyed Try.prog 3 := int_keyed Try.underlying3
theorem zeroBool (w : World) : (zeroValue 4).run Try.prog w = .ok (.bool false) w := by kernel_rfl
theorem keyOf_id {y : Int} (h0 : 1 ≤ y) (h1 : y ≤ 9999) : keyOf Try.prog 3 (.int .i64 y) = some (.int .i64 y) := keyOf_int_mk Try.underlying3 (WalkArith.wf_i64 (by omega))

/-- The map holds true at just these ids. -/
def SeenIs (D : DataW Unit) (ids : List Int) : Prop := IsMap D ∧ ∀ id : Int, D.atKey (.int .i64 id) (.lit (.bool false)) = .lit (.bool (decide (id ∈ ids)))
theorem SeenIs.start : SeenIs (.map []) [] := ⟨isMap_empty, fun id => by simp [DataW.atKey]⟩
theorem SeenIs.put {D : DataW Unit} {ids : List Int} (h : SeenIs D ids) (y : Int) : SeenIs (D.put (.int .i64 y) (.lit (.bool true))) (ids ++ [y]) := by
  refine ⟨h.1.put _ _, fun id => ?_⟩
  by_cases e : id = y
  · subst e
    rw [atKey_put_same h.1 (show WideAt.IsKeyLit (.int .i64 id) from trivial)]
    simp
  · rw [atKey_put_other (fun e' => e (by injection e')), h.2]
    simp [e]
theorem plainElem_bool_inv {P : Program} {e : TypeId} (he : P.underlying e = some .bool) {v : Value} {z : DataW Unit × List MemPlace} (h : plainElem P e v = some z) : ∃ c, v = .bool c ∧ z = (.lit (.bool c), []) := by
  unfold plainElem at h
  rw [he] at h
  cases v <;> simp at h
  exact ⟨_, rfl, h.symm⟩
theorem seen_look {w : World} {b n : Nat} {D : DataW Unit} {ids : List Int} (h : w.ownsMap Try.prog 3 (plainElem Try.prog 4) b n D) (hs : SeenIs D ids) {y : Int} (h0 : 1 ≤ y) (h1 : y ≤ 9999) :
    (Instr.lookup 116 (.map (some b)) (.int .i64 y) false).run Try.prog w = .ok (.bool (decide (y ∈ ids))) w := by
  obtain ⟨v, ps, hrun, hv⟩ := h.lookup keyInt Try.underlying116 (zeroBool w) (plainElem_bool Try.underlying4 false) (keyOf_id h0 h1)
  obtain ⟨c, rfl, hc⟩ := plainElem_bool_inv Try.underlying4 hv
  rw [hs.2] at hc
  simp only [Prod.mk.injEq, DataW.lit.injEq, Lit.bool.injEq] at hc
  rw [hrun, ← hc.1]
end Go.Proofs.Ytecfomaapomncaa.Lnk
