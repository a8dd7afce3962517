/-
  Events of a right gate: the walk of the specification.
  A right gate: the walk of the specification's GateOk.
-/
import Derived.Test.YtkndpkingmemoaaGreatDoorMgh
namespace Go.Proofs.YtkndpkingmemoaaGreatDoor.Gat
open Go.RowKit
open Lnk (bOne bAfter IOwn IIs below_keep below_drew' low_after low_alloc lokB LOk idsL)
set_option linter.unusedVariables false

/-- the ids that fly over a device's link -/
def overL (K : List Lk) (d : Int) : List Int := idsL ((K.getD (d - 1).toNat lk0).l)
def seGood (de la nw p : Int) (K : List Lk) (R : List Int) (e : Ev) : Prop :=
  EvGood de la nw p e ∧ (e.s == 1) = hasB (overL K e.d) e.i ∧ (e.s == 3) = hasB R e.i
def seP (en : Nat) (de la nw : Int) (E : List Ev) (K : List Lk) (R : List Int) : Prop :=
  en ≤ 60 ∧ ∀ k, (h : k < E.length) → seGood de la nw (ahead E k) K R E[k]

end Go.Proofs.YtkndpkingmemoaaGreatDoor.Gat
namespace Go.Proofs.YtkndpkingmemoaaGreatDoor.Gat
open Go.RowKit
open Lnk (bOne bAfter IOwn IIs below_keep below_drew' low_after low_alloc)
set_option linter.unusedVariables false

/-- how many are dead, of the first devices -/
def deadN (E : List Ev) : Nat → Nat
  | 0 => 0
  | n + 1 => deadN E n + cntN ((n : Int) + 1) 3 E
def specP (de qu wi ti qa bu le pb pc pj pt nw la : Int) (en kn : Nat) (tu : Int) (fn rn : Nat) (tk ac dr : Int) (E : List Ev) (K : List Lk) (F R : List Int) : Prop :=
  CfgOk de qu wi ti qa bu le pb pc pj pt ∧ (0 ≤ nw ∧ nw ≤ 1000000000) ∧ (0 ≤ la ∧ la ≤ 9999) ∧ slP kn fn de wi qu E K F ∧ seP en de la nw E K R ∧ (0 ≤ tu ∧ tu ≤ de - 1) ∧ ((rn : Int) ≤ le ∧ rn = deadN E de.toNat) ∧ toP en tk ac dr

end Go.Proofs.YtkndpkingmemoaaGreatDoor.Gat
