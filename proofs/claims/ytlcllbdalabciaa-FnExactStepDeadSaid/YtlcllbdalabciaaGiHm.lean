/-
  keeper.remove; the program's Drain.
-/
import Derived.Test.YtlcllbdalabciaaGiGm
namespace Go.Proofs.Ytlcllbdalabciaa.Gat
open Go.RowKit
open Lnk (bOne bAfter IOwn IIs YOwn YIs below_keep below_drew' bcell low_after low_alloc grown_of_below)
set_option linter.unusedVariables false
set_option linter.unusedSimpArgs false

theorem gRows_rowTy {ev lk lf lt : Value} {vs : List Value} {E : List Ev} {K : List Lk} {F R : List Int} : ∀ r ∈ gRows ev lk lf lt vs E K F R, rowTy r.E = true := by
  intro r hr
  unfold gRows at hr
  simp only [List.mem_cons] at hr
  rcases hr with rfl | rfl | rfl | rfl | hr
  · rfl
  · rfl
  · rfl
  · rfl
  · rw [flRs_ty hr]; rfl
/-- a box of another type was written -/
theorem GOwn.offbox4 {B : Nat} {w w' : World} {ev lk lf lt : Value} {vs : List Value} {E : List Ev} {K : List Lk} {F R : List Int} {k : Nat} {T : TypeId} {l : List Value} (h : GOwn B w ev lk lf lt vs E K F R) (hb : Box w k T l) (hT : rowTy T = false) (hg : w.grownBy w' (some k)) : GOwn B w' ev lk lf lt vs E K F R :=
  ⟨h.rows.offbox hb (fun r hr e => by have h1 := gRows_rowTy r hr; rw [e, hT] at h1; cases h1) hg, h.len, h.body⟩

theorem gok_tot {de qu wi ti qa bu le pb pc pj pt nw la : Int} {en kn : Nat} {tu : Int} {fn rn : Nat} {tk ac dr : Int} {E : List Ev} {K : List Lk} {F R : List Int} (h : gokB de qu wi ti qa bu le pb pc pj pt nw la en kn tu fn rn tk ac dr E K F R = true) : (0 ≤ dr ∧ dr ≤ 9999) ∧ (rn : Int) ≤ 20 := by
  have h1 := gokB_true h
  have h2 := h1.1
  unfold CfgOk at h2
  have h3 := h1.2.2.2.2.2.2.1.1
  exact ⟨h1.2.2.2.2.2.2.2.2.2.1, by omega⟩
end Go.Proofs.Ytlcllbdalabciaa.Gat
