/-
  Links of a right gate: the walks of the specification.
-/
import Derived.Test.YtkndpkingmemoaaGreatDoorMgg
import Derived.Test.YtkndpkingmemoaaGreatDoorMga
import Derived.Test.YtkndpkingmemoaaGreatDoorMgf
namespace Go.Proofs.YtkndpkingmemoaaGreatDoor.Gat
open Go.RowKit
open Lnk (bOne bAfter IOwn IIs below_keep below_drew' low_after low_alloc lokB LOk idsL)
set_option linter.unusedVariables false

def hasB (l : List Int) (n : Int) : Bool := decide (l.count n = 1)
theorem hasB_yes {l : List Int} {n : Int} : hasB l n = true ↔ l.count n = 1 := by unfold hasB; exact decide_eq_true_iff
def linkGood (wi qu d : Int) (E : List Ev) (k : Lk) (f : Int) : Prop :=
  LOk k.up k.ep k.sq k.l ∧ (k.l.length : Int) ≤ wi ∧ (0 ≤ f ∧ f ≤ 1000) ∧ (openN d E : Int) ≤ qu ∧ k.l.length = cntN d 1 E
def slP (kn fn : Nat) (de wi qu : Int) (E : List Ev) (K : List Lk) (F : List Int) : Prop :=
  (kn : Int) = de ∧ (fn : Int) = de ∧ ∀ k, (h : k < K.length) → (h2 : k < F.length) → linkGood wi qu ((k : Int) + 1) E K[k] F[k]

end Go.Proofs.YtkndpkingmemoaaGreatDoor.Gat
