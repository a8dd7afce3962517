/-
  The specification's Connect and Disconnect.
  Plain facts on the decimal text of a number. No Go in sight.
  Rows of texts, and the marks that the exact laws write into them. No program in sight.
  The walks of the exact laws' marks: a mark's text, a row marked, a row held against its marks, two rows held against each other.
  Marks in rows of messages: written, and read again.
  Marks of messages, read again.
-/
import Derived.Test.YtkndpkingmemoaaDoorMge
import Derived.Test.YtkndpkingmemoaaDoorMgf
import Derived.Test.YtkndpkingmemoaaDoorMgi
import Derived.Below
import Derived.Lib.ItoaNum
import Derived.Lib.ItoaMem
import Derived.Lib.Strings
import Derived.RangeFuncBox
import Derived.Test.YtkndpkingmemoaaDoorProg
import Derived.WalkLawsBesides
import Derived.Deep.QuietTactic
import Derived.BigQuiet
import Derived.Deep.RegionHeld3
import Derived.Test.YtkndpkingmemoaaDoorMgd
import Derived.Deep.DeepCutAuto
namespace Go.Proofs.YtkndpkingmemoaaDoor.Gat
open Go.RowKit
open Lnk (bOne bAfter IOwn IIs YOwn YIs below_keep below_drew' bcell low_after low_alloc grown_of_below joU joE joS joL joI leU leL leI)
set_option linter.unusedVariables false
set_option linter.unusedSimpArgs false

/-- is a gate right, as a Bool -/
noncomputable def gokB (de qu wi ti qa bu le pb pc pj pt nw la : Int) (en kn : Nat) (tu : Int) (fn rn : Nat) (tk ac dr : Int) (E : List Ev) (K : List Lk) (F R : List Int) : Bool := @decide (specP de qu wi ti qa bu le pb pc pj pt nw la en kn tu fn rn tk ac dr E K F R) (Classical.propDecidable _)
theorem gokB_of {x : Bool} {de qu wi ti qa bu le pb pc pj pt nw la : Int} {en kn : Nat} {tu : Int} {fn rn : Nat} {tk ac dr : Int} {E : List Ev} {K : List Lk} {F R : List Int} (h : x = true ↔ specP de qu wi ti qa bu le pb pc pj pt nw la en kn tu fn rn tk ac dr E K F R) : gokB de qu wi ti qa bu le pb pc pj pt nw la en kn tu fn rn tk ac dr E K F R = x := by
  unfold gokB
  cases x with
  | true => exact @decide_eq_true _ (Classical.propDecidable _) (h.1 rfl)
  | false => exact @decide_eq_false _ (Classical.propDecidable _) (fun hp => by have := h.2 hp; cases this)
theorem gokB_true {de qu wi ti qa bu le pb pc pj pt nw la : Int} {en kn : Nat} {tu : Int} {fn rn : Nat} {tk ac dr : Int} {E : List Ev} {K : List Lk} {F R : List Int} (h : gokB de qu wi ti qa bu le pb pc pj pt nw la en kn tu fn rn tk ac dr E K F R = true) : specP de qu wi ti qa bu le pb pc pj pt nw la en kn tu fn rn tk ac dr E K F R := @of_decide_eq_true _ (Classical.propDecidable _) h
noncomputable def joinK (k : Lk) : Lk := ⟨joU k.up k.ep k.sq k.l, joE k.up k.ep k.sq k.l, joS k.up k.ep k.sq k.l, joL k.up k.ep k.sq k.l⟩
noncomputable def leaveK (k : Lk) : Lk := ⟨leU k.up k.ep k.sq k.l, k.ep, k.sq, leL k.up k.ep k.sq k.l⟩
noncomputable def joinI (k : Lk) : List Int := joI k.up k.ep k.sq k.l
noncomputable def leaveI (k : Lk) : List Int := leI k.up k.ep k.sq k.l
theorem joinI_len (k : Lk) : (joinI k).length ≤ k.l.length := by
  unfold joinI joI
  split
  · simp [Lnk.idsL]
  · simp
theorem leaveI_len (k : Lk) : (leaveI k).length ≤ k.l.length := by
  unfold leaveI leI
  split
  · simp [Lnk.idsL]
  · simp
/-- the links, one of which is changed; the messages, those of its ids back -/
def conK (J : Lk → Lk) (ok : Bool) (K : List Lk) (d : Int) : List Lk := if ok then K.set (d - 1).toNat (J (K.getD (d - 1).toNat lk0)) else K
def conE (I : Lk → List Int) (ok : Bool) (K : List Lk) (E : List Ev) (d : Int) : List Ev := if ok then backE E (I (K.getD (d - 1).toNat lk0)) else E
theorem conK_at {J : Lk → Lk} {K : List Lk} {d : Int} {m : Nat} {k : Lk} (hm : m < K.length) (hd : d = (m : Int) + 1) (hk : K[m] = k) : conK J true K d = K.set m (J k) := by
  have e : (d - 1).toNat = m := by omega
  unfold conK
  rw [if_pos rfl, e, List.getD_eq_getElem?_getD, List.getElem?_eq_getElem hm, hk]
  rfl
theorem conE_at {I : Lk → List Int} {K : List Lk} {E : List Ev} {d : Int} {m : Nat} {k : Lk} (hm : m < K.length) (hd : d = (m : Int) + 1) (hk : K[m] = k) : conE I true K E d = backE E (I k) := by
  have e : (d - 1).toNat = m := by omega
  unfold conE
  rw [if_pos rfl, e, List.getD_eq_getElem?_getD, List.getElem?_eq_getElem hm, hk]
  rfl
end Go.Proofs.YtkndpkingmemoaaDoor.Gat
namespace Go.Proofs.YtkndpkingmemoaaDoor.Dec
open Go.RowKit

/-- the digits of u, none for 0 -/
def dd (u : Nat) : List UInt8 := if u = 0 then [] else Lib.decDigits u
end Go.Proofs.YtkndpkingmemoaaDoor.Dec
namespace Go.Proofs.YtkndpkingmemoaaDoor.Kit
open Go.RowKit
set_option linter.unusedVariables false

/-- the mark of number k -/
def mkt (k : Nat) : ByteArray := ⟨(109 :: Dec.dd k).toArray⟩
/-- the marks from k on, n of them -/
def marks (k n : Nat) : List ByteArray := (List.range n).map fun j => mkt (k + j)
/-- A row of texts: its cells, if it has any, lie at the head of a block. -/
def SRow (w : World) (ad : Option Addr) (l : List ByteArray) : Prop := ∀ j (h : j < l.length), ∃ g, ad = some ⟨g, 0, none⟩ ∧ g < w.heap.size ∧ w.cell? ⟨g, j, none⟩ = some (.string l[j])

theorem SRow.grown {w w' : World} {ad : Option Addr} {l : List ByteArray} {r : Option Nat} (h : SRow w ad l) (hg : w.grownBy w' r) (hr : ∀ g, ad = some ⟨g, 0, none⟩ → some g ≠ r) : SRow w' ad l := by
  intro j hj
  obtain ⟨g, e, hlt, hc⟩ := h j hj
  exact ⟨g, e, Nat.lt_of_lt_of_le hlt hg.size, hg.cell hc (hr g e)⟩
theorem grown_of_below {w w' : World} (h : Below w.heap.size w w') (r : Option Nat) : w.grownBy w' r := ⟨h.os, h.tape, h.output, h.size, fun k hk _ => h.block k hk⟩
end Go.Proofs.YtkndpkingmemoaaDoor.Kit
namespace Go.Proofs.YtkndpkingmemoaaDoor.Mark
open Go.RowKit Go.Proofs.YtkndpkingmemoaaDoor.Kit Go.Proofs.YtkndpkingmemoaaDoor.Dec
set_option linter.unusedVariables false

end Go.Proofs.YtkndpkingmemoaaDoor.Mark
namespace Go.Proofs.YtkndpkingmemoaaDoor.Gat
open Go.RowKit
open Kit (mkt)
set_option linter.unusedVariables false
set_option linter.unusedSimpArgs false

end Go.Proofs.YtkndpkingmemoaaDoor.Gat
namespace Go.Proofs.YtkndpkingmemoaaDoor.Gat
open Go.RowKit
open Kit (mkt)
set_option linter.unusedVariables false
set_option linter.unusedSimpArgs false

end Go.Proofs.YtkndpkingmemoaaDoor.Gat
