/-
  The specification's l08Code and Submit.
  The specification's l08Answer.
  The specification's Receive.
-/
import Derived.Test.YtlcllbdalabciaaMgo
import Derived.Test.YtlcllbdalabciaaMgg
import Derived.Test.YtlcllbdalabciaaMgp
import Derived.Test.YtlcllbdalabciaaMgq
namespace Go.Proofs.Ytlcllbdalabciaa.Gat
open Go.RowKit
open Lnk (bOne bAfter IOwn IIs YOwn YIs below_keep below_drew' bcell low_after low_alloc grown_of_below)
set_option linter.unusedVariables false
set_option linter.unusedSimpArgs false

theorem ne_eg : (81 : TypeId) ≠ 38 := by decide
end Go.Proofs.Ytlcllbdalabciaa.Gat
namespace Go.Proofs.Ytlcllbdalabciaa.Gat
open Go.RowKit
open Lnk (bOne bAfter IOwn IIs YOwn YIs below_keep below_drew' bcell low_after low_alloc grown_of_below ansL ansI)
set_option linter.unusedVariables false
set_option linter.unusedSimpArgs false

theorem sizeLnk : (Try.prog.info? 56).map (·.size) = some 4 := by kernel_rfl
theorem ne_lg : (56 : TypeId) ≠ 38 := by decide
theorem ne_of_box {B : Nat} {w : World} {r : Rw} {k g : Nat} {T : TypeId} {l : List Value} (h : r.At B w) (hb : Box w k T l) (hne : r.E ≠ T) (hv : r.v.ownBlock = some g) : some k ≠ some g := by
  rcases h.offbox hb hne with h1 | h1
  · rw [hv] at h1; cases h1
  · rw [← hv]; exact Ne.symm h1
theorem getD_at {K : List Lk} {d : Int} {m : Nat} {k : Lk} (hm : m < K.length) (hd : d = (m : Int) + 1) (hk : K[m] = k) : K.getD (d - 1).toNat lk0 = k ∧ (d - 1).toNat = m := by
  have e : (d - 1).toNat = m := by omega
  rw [e, List.getD_eq_getElem?_getD, List.getElem?_eq_getElem hm, hk]
  exact ⟨rfl, rfl⟩

theorem ne_old {B : Nat} {w : World} {r : Rw} {k : Nat} (h : r.At B w) (hk : k = w.heap.size) : r.v.ownBlock = none ∨ r.v.ownBlock ≠ some k := by
  cases hv : r.v.ownBlock with
  | none => exact .inl rfl
  | some q => exact .inr (by have := (h.lt q hv).2; intro e; injection e; omega)
end Go.Proofs.Ytlcllbdalabciaa.Gat
namespace Go.Proofs.Ytlcllbdalabciaa.Gat
open Go.RowKit
open Lnk (bOne bAfter IOwn IIs YOwn YIs below_keep below_drew' bcell low_after low_alloc grown_of_below)
open Frm (GotE gcode gK gD gE gS gI gB told_len FOk)
set_option linter.unusedVariables false
set_option linter.unusedSimpArgs false

end Go.Proofs.Ytlcllbdalabciaa.Gat
