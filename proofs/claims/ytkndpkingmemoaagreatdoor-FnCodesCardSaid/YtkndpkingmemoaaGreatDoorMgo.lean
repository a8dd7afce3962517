/-
  The specification's Drain.
-/
import Derived.Test.YtkndpkingmemoaaGreatDoorMgj
namespace Go.Proofs.YtkndpkingmemoaaGreatDoor.Gat
open Go.RowKit
open Lnk (bOne bAfter IOwn IIs YOwn YIs below_keep below_drew' bcell low_after low_alloc grown_of_below)
set_option linter.unusedVariables false
set_option linter.unusedSimpArgs false

section
variable {P : Program} {w : World} {k : Nat} {T : TypeId} {l : List Value} {ops : Array Oper} {Q : Exit → Act → World → Prop} {o : Oper} {a : Act}
end
theorem Rw.At.offbox {B : Nat} {w : World} {r : Rw} {k : Nat} {T : TypeId} {l : List Value} (h : r.At B w) (hb : Box w k T l) (hne : r.E ≠ T) : r.v.ownBlock = none ∨ r.v.ownBlock ≠ some k := by
  rcases h.2 with ⟨e, _⟩ | ⟨g, c, cur, e, _, hg, _⟩
  · left; rw [e]; rfl
  · right
    rw [e]
    intro e2
    simp only [Value.ownBlock, Option.some.injEq] at e2
    subst e2
    have h1 : w.heap[g]? = some (.cells l.toArray T) := hb
    rw [hg] at h1
    simp only [Option.some.injEq, Obj.cells.injEq] at h1
    exact hne h1.2.1
theorem Rws.offbox {B : Nat} {w w' : World} {L : List Rw} {k : Nat} {T : TypeId} {l : List Value} (h : Rws B w L) (hb : Box w k T l) (hne : ∀ r ∈ L, r.E ≠ T) (hg : w.grownBy w' (some k)) : Rws B w' L := h.kept hg fun r hr => (h.at_ r hr).offbox hb (hne r hr)
theorem flRs_ty : ∀ {K : List Lk} {vs : List Value} {r : Rw}, r ∈ flRs K vs → r.E = 95
  | [], _, r, h => by simp [flRs] at h
  | k :: K, [], r, h => by simp [flRs] at h
  | k :: K, v :: vs, r, h => by
    simp only [flRs, List.mem_cons] at h
    rcases h with rfl | h
    · rfl
    · exact flRs_ty h
theorem gRows_ty {ev lk lf lt : Value} {vs : List Value} {E : List Ev} {K : List Lk} {F R : List Int} : ∀ r ∈ gRows ev lk lf lt vs E K F R, r.E ≠ 32 := by
  intro r hr
  unfold gRows at hr
  simp only [List.mem_cons] at hr
  rcases hr with rfl | rfl | rfl | rfl | hr
  · exact (by decide : (39 : TypeId) ≠ 32)
  · exact (by decide : (82 : TypeId) ≠ 32)
  · exact (by decide : (3 : TypeId) ≠ 32)
  · exact (by decide : (3 : TypeId) ≠ 32)
  · rw [flRs_ty hr]
    exact (by decide : (95 : TypeId) ≠ 32)
theorem GOwn.offbox {B : Nat} {w w' : World} {ev lk lf lt : Value} {vs : List Value} {E : List Ev} {K : List Lk} {F R : List Int} {k : Nat} {l : List Value} (h : GOwn B w ev lk lf lt vs E K F R) (hb : Box w k 32 l) (hg : w.grownBy w' (some k)) : GOwn B w' ev lk lf lt vs E K F R := ⟨h.rows.offbox hb gRows_ty hg, h.len, h.body⟩
theorem results_box2 {P : Program} {w : World} {fn : Func} {t s : Tmp} {ty T : TypeId} {k : Nat} {l : List Value} {v : Value} (tmps : Array Value) (h : fn.results = #[.cell t ty, .tmp s]) (hs : tmps.getD t undef = .pointer (some ⟨k, 0, none⟩)) (hv : tmps.getD s undef = v) (hb : Box w k T l) (fs : Array Field) (hu : P.underlying ty = some (.struct fs)) (hi : (P.info? ty).map (·.size) = some l.length) :
    (results fn tmps).run P w = .ok (.tuple #[.agg l.toArray, v]) w := by
  have hrun := run_loadVar_row (P := P) w k T ty l.toArray (0, 0) _ hb hu rfl (by simpa using hi)
  have hs' : tmps[t]?.getD undef = .pointer (some ⟨k, 0, none⟩) := by rw [← hs]; simp [Array.getD_eq_getD_getElem?]
  have hv' : tmps[s]?.getD undef = v := by rw [← hv]; simp [Array.getD_eq_getD_getElem?]
  simp [results, h, hs', hv', asAddr, hrun]
theorem results_box3 {P : Program} {w : World} {fn : Func} {t s u : Tmp} {ty T : TypeId} {k : Nat} {l : List Value} {v v2 : Value} (tmps : Array Value) (h : fn.results = #[.cell t ty, .tmp s, .tmp u]) (hs : tmps.getD t undef = .pointer (some ⟨k, 0, none⟩)) (hv : tmps.getD s undef = v) (hv2 : tmps.getD u undef = v2) (hb : Box w k T l) (fs : Array Field) (hu : P.underlying ty = some (.struct fs)) (hi : (P.info? ty).map (·.size) = some l.length) :
    (results fn tmps).run P w = .ok (.tuple #[.agg l.toArray, v, v2]) w := by
  have hrun := run_loadVar_row (P := P) w k T ty l.toArray (0, 0) _ hb hu rfl (by simpa using hi)
  have hs' : tmps[t]?.getD undef = .pointer (some ⟨k, 0, none⟩) := by rw [← hs]; simp [Array.getD_eq_getD_getElem?]
  have hv' : tmps[s]?.getD undef = v := by rw [← hv]; simp [Array.getD_eq_getD_getElem?]
  have hw' : tmps[u]?.getD undef = v2 := by rw [← hv2]; simp [Array.getD_eq_getD_getElem?]
  simp [results, h, hs', hv', hw', asAddr, hrun]
section
variable {B : Nat} {w w' : World} {ev lk lf lt : Value} {vs : List Value} {E : List Ev} {K : List Lk} {F R : List Int}
end
def sel {α : Type} (ok : Bool) (a b : α) : α := if ok then a else b
def goneAll (E : List Ev) (ids : List Int) : List Ev := ids.foldl (fun E id => goneE id E) E
end Go.Proofs.YtkndpkingmemoaaGreatDoor.Gat
