/-
  keeper.remove with its slices.DeleteFunc.
-/
import Derived.Test.YtlcllbdalabciaaMgn
import Derived.Test.YtlcllbdalabciaaMgo
namespace Go.Proofs.Ytlcllbdalabciaa.Gat
open Go.RowKit
open Lnk (bOne bAfter IOwn IIs YOwn YIs below_keep below_drew' bcell low_after low_alloc grown_of_below)
set_option linter.unusedVariables false
set_option linter.unusedSimpArgs false

/-- messages without those of some ids -/
def keepL (ids : List Int) (E : List Ev) : List Ev := E.filter fun e => !hasI ids e.i
theorem keepL_snoc_no {ids : List Int} {E : List Ev} {j : Nat} (h : j < E.length) (hn : hasI ids E[j].i = true) : keepL ids (E.take (j + 1)) = keepL ids (E.take j) := by
  unfold keepL
  rw [List.take_succ_eq_append_getElem h, List.filter_append]
  simp [hn]
theorem keepL_all {ids : List Int} {E : List Ev} (h : ∀ e ∈ E, hasI ids e.i = false) : keepL ids E = E := by
  unfold keepL
  exact List.filter_eq_self.2 fun e he => by rw [h e he]; rfl
/-- the box of the closure's ids, and the ids -/
structure IdB (w : World) (kp Bi : Nat) (ia : Option Addr) (n ic : Nat) (ids : List Int) : Prop where
  box : Box w kp 28 [.slice ia n ic]
  row : (inR (.slice ia n ic) ids).At Bi w
theorem IdB.below {w w' : World} {kp Bi : Nat} {ia : Option Addr} {n ic : Nat} {ids : List Int} (h : IdB w kp Bi ia n ic ids) (hb : Below w.heap.size w w') : IdB w' kp Bi ia n ic ids := ⟨h.box.below hb, inR_below h.row hb⟩
theorem IdB.ev {w w' : World} {kp Bi B : Nat} {ia : Option Addr} {n ic : Nat} {ids : List Int} {v : Value} {l : List Ev} (h : IdB w kp Bi ia n ic ids) (hr : (evR v l).At B w) (hg : w.grownBy w' v.ownBlock) : IdB w' kp Bi ia n ic ids := ⟨h.box.grown hg (hr.ne_box rfl h.box rfl), inR_kept h.row hr ne_ei hg⟩

end Go.Proofs.Ytlcllbdalabciaa.Gat
