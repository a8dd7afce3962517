/-
  slices.DeleteFunc with the closure of keeper.remove; remove.
-/
import Derived.Test.YtlcllbdalabciaaGiFm
namespace Go.Proofs.Ytlcllbdalabciaa.Gat
open Go.RowKit
open Lnk (bOne bAfter IOwn IIs YOwn YIs below_keep below_drew' bcell low_after low_alloc grown_of_below)
set_option linter.unusedVariables false
set_option linter.unusedSimpArgs false

/-- a row under way: the first i are those of the first j that stay -/
structure DelAt (ids : List Int) (E M : List Ev) (i j : Nat) : Prop where
  len : M.length = E.length
  ij : i < j
  jn : j ≤ E.length
  num : (keepL ids (E.take j)).length = i
  low : M.take i = keepL ids (E.take j)
  high : M.drop j = E.drop j
theorem DelAt.start {ids : List Int} {E : List Ev} {k : Nat} (hk : k < E.length) (h1 : hasI ids E[k].i = true) (h2 : ∀ x ∈ E.take k, hasI ids x.i = false) : DelAt ids E E k (k + 1) :=
  ⟨rfl, by omega, hk, by rw [keepL_snoc_no hk h1, keepL_all h2, List.length_take]; omega, by rw [keepL_snoc_no hk h1, keepL_all h2], rfl⟩
theorem DelAt.at {ids : List Int} {E M : List Ev} {i j : Nat} (h : DelAt ids E M i j) (hj : j < E.length) (hm : j < M.length) : M[j] = E[j] := by
  have h1 := congrArg (fun l => l[0]?) h.high
  simp only [List.getElem?_drop, Nat.add_zero] at h1
  rw [List.getElem?_eq_getElem hm, List.getElem?_eq_getElem hj] at h1
  injection h1
end Go.Proofs.Ytlcllbdalabciaa.Gat
