/-
  The laws' marks on a row of links without flies: written, and read again.
  Marks in links with what flies on them, in rows of ints: written, and read again.
  A gate that came in, copied.
  A gate compared with its like.
-/
import Derived.Test.YtkndpkingmemoaaDoorMgc
import Derived.Test.YtkndpkingmemoaaDoorMgj
import Derived.Test.YtkndpkingmemoaaDoorMgd
import Derived.Deep.DeepCutAuto
namespace Go.Proofs.YtkndpkingmemoaaDoor.Gat
open Go.RowKit
open Lnk (bOne bAfter IOwn IIs below_keep below_drew')
set_option linter.unusedVariables false

end Go.Proofs.YtkndpkingmemoaaDoor.Gat
namespace Go.Proofs.YtkndpkingmemoaaDoor.Gat
open Go.RowKit
open Lnk (bOne bAfter IOwn IIs YOwn YIs Y below_keep below_drew' bcell low_after low_alloc grown_of_below mrkY mrkY_len mrkY_get mrkY_step mrkY_mid_len mrkI mrkI_len mrkI_get mrkI_step mrkI_mid_len)
set_option linter.unusedVariables false
set_option linter.unusedSimpArgs false

/-- a row in its place was written, or grew -/
theorem Rws.mod {B : Nat} {w w' : World} {L : List Rw} {s : Rw} (h : Rws B w L) (i : Nat) (hi : i < L.length) (hg : w.grownBy w' L[i].v.ownBlock) (hs : s.At B w') (hat : s.v.ownBlock = L[i].v.ownBlock) : Rws B w' (L.set i s) := by
  have hp := List.pairwise_iff_getElem.1 h.sep
  have key : ∀ k (hk : k < L.length), k ≠ i → Apart L[k].v L[i].v := fun k hk hne => by
    rcases Nat.lt_or_gt_of_ne hne with h1 | h1
    · exact hp k i hk hi h1
    · exact (hp i k hi hk h1).symm
  refine ⟨fun r hr => ?_, ?_⟩
  · obtain ⟨k, hk, rfl⟩ := List.getElem_of_mem hr
    rw [List.length_set] at hk
    rw [List.getElem_set]
    split
    · exact hs
    · rename_i hne
      exact (h.at_ _ (List.getElem_mem hk)).kept hg (key k hk (fun e => hne e.symm))
  · rw [List.pairwise_iff_getElem]
    intro a b ha hb hab
    rw [List.length_set] at ha hb
    rw [List.getElem_set, List.getElem_set]
    have cong : ∀ u : Value, Apart u L[i].v → Apart u s.v := fun u hu => by unfold Apart at *; rw [hat]; exact hu
    split
    · split
      · omega
      · rename_i e1 e2
        exact (cong _ (key b hb (fun e => e2 e.symm))).symm
    · rename_i e1
      split
      · exact cong _ (key a ha (fun e => e1 e.symm))
      · exact hp a b ha hb hab
/-- is it a type of the rows of a gate -/
def rowTy (T : TypeId) : Bool := T == 55 || T == 44 || T == 3 || T == 86
theorem Rw.At.ne_box {B : Nat} {w : World} {r : Rw} {k : Nat} {T : TypeId} {l : List Value} (h : r.At B w) (hr : rowTy r.E = true) (hb : Box w k T l) (hT : rowTy T = false) : some k ≠ r.v.ownBlock := by
  have hne : r.E ≠ T := fun e => by rw [e, hT] at hr; cases hr
  rcases h.2 with ⟨e, _⟩ | ⟨g, c, cur, e, _, hg, _⟩
  · rw [e]; simp [Value.ownBlock]
  · rw [e]
    intro e2
    simp only [Value.ownBlock, Option.some.injEq] at e2
    subst e2
    have h1 : w.heap[k]? = some (.cells l.toArray T) := hb
    rw [hg] at h1
    simp only [Option.some.injEq, Obj.cells.injEq] at h1
    exact hne h1.2.1
/-- all boxes of other types stay as they were -/
def Keep4 (w w' : World) : Prop := w.heap.size ≤ w'.heap.size ∧ ∀ (k : Nat) (T : TypeId) (l : List Value), rowTy T = false → Box w k T l → Box w' k T l
theorem Keep4.refl (w : World) : Keep4 w w := ⟨Nat.le_refl _, fun _ _ _ _ h => h⟩
theorem Keep4.trans {a b c : World} (h : Keep4 a b) (h2 : Keep4 b c) : Keep4 a c := ⟨Nat.le_trans h.1 h2.1, fun k T l hT hb => h2.2 k T l hT (h.2 k T l hT hb)⟩
theorem Keep4.below {w w' : World} (hb : Below w.heap.size w w') : Keep4 w w' := ⟨hb.size, fun k T l _ h => h.below hb⟩
theorem Keep4.row {B : Nat} {w w' : World} {r : Rw} (h : r.At B w) (hr : rowTy r.E = true) (hg : w.grownBy w' r.v.ownBlock) : Keep4 w w' := ⟨hg.size, fun k T l hT hb => hb.grown hg (h.ne_box hr hb hT)⟩
theorem Keep4.box {w w' : World} {k : Nat} {T : TypeId} {l : List Value} (h : Keep4 w w') (hb : Box w k T l) (hT : rowTy T = false) : Box w' k T l := h.2 k T l hT hb
end Go.Proofs.YtkndpkingmemoaaDoor.Gat
namespace Go.Proofs.YtkndpkingmemoaaDoor.Gat
open Go.RowKit
open Lnk (bOne bAfter IOwn IIs below_keep below_drew' bcell low_after low_alloc)
set_option linter.unusedVariables false

end Go.Proofs.YtkndpkingmemoaaDoor.Gat
namespace Go.Proofs.YtkndpkingmemoaaDoor.Gat
open Go.RowKit
open Lnk (bOne bAfter IOwn IIs below_keep below_drew' bcell low_after low_alloc)
set_option linter.unusedVariables false

end Go.Proofs.YtkndpkingmemoaaDoor.Gat
