/-
  Gates after a step are small.
-/
import Derived.Test.YtlcllbdalabciaaGiOm
namespace Go.Proofs.Ytlcllbdalabciaa.Gat
open Go.RowKit
set_option linter.unusedVariables false
theorem small_late {ok : Bool} {nw : Int} {E : List Ev} {K : List Lk} {F R : List Int} (h : Small E.length K.length F.length R.length K) : Small (sel ok (lateEs nw K E K.length) E).length (sel ok (K.map (lateK nw)) K).length F.length R.length (sel ok (K.map (lateK nw)) K) := by
  cases ok with
  | false => exact h
  | true =>
    refine ⟨?_, ?_, fun k hk => ?_, h.2.2.2⟩
    · show (lateEs nw K E K.length).length ≤ _
      rw [lateEs_len]; exact h.1
    · show (K.map (lateK nw)).length ≤ _
      rw [List.length_map]; exact h.2.1
    · refine small_lateKs (now := nw) (j := K.length) h.2.2.1 k ?_
      rw [lateKs_all]; exact hk
theorem small_old {ok : Bool} {nw : Int} {E : List Ev} {K : List Lk} {F R : List Int} (h : Small E.length K.length F.length R.length K) : Small (sel ok (E.map (oldE nw)) E).length (sel ok (oldKs nw K E E.length) K).length F.length R.length (sel ok (oldKs nw K E E.length) K) := by
  cases ok with
  | false => exact h
  | true =>
    refine ⟨?_, ?_, fun k hk => ?_, h.2.2.2⟩
    · show (E.map (oldE nw)).length ≤ _
      rw [List.length_map]; exact h.1
    · show (oldKs nw K E E.length).length ≤ _
      rw [oldKs_len]; exact h.2.1
    · exact oldKs_small nw K E E.length h.2.2.1 k hk
theorem small_dead {ok : Bool} {le : Int} {E : List Ev} {K : List Lk} {F R : List Int} (h : Small E.length K.length F.length R.length K) (hl : ok = true → le ≤ 1000000) : Small (sel ok (deadEs le E R E.length) E).length K.length F.length (sel ok (deadR le E R E.length) R).length K := by
  cases ok with
  | false => exact h
  | true =>
    refine ⟨?_, h.2.1, h.2.2.1, h.2.2.2.1, ?_⟩
    · show (deadEs le E R E.length).length ≤ _
      rw [deadEs_len]; exact h.1
    · show (deadR le E R E.length).length ≤ _
      have h1 := deadR_len le E R E.length
      have h2 := hl rfl
      have h3 := h.2.2.2.2
      omega
end Go.Proofs.Ytlcllbdalabciaa.Gat
