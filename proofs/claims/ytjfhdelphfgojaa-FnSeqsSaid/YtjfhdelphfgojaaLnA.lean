/-
  What the laws of links say, as plain lists. No Go in sight.
-/
import Derived.Test.YtjfhdelphfgojaaLkP
namespace Go.Proofs.Ytjfhdelphfgojaa.Lnk
set_option linter.unusedVariables false

section
variable {up : Bool} {ep sq : Int} {l : List (Int × Int × Int)}
theorem stay_of_gone {p : Int × Int × Int → Bool} (h : goneL p l = []) : stayL p l = l := by
  unfold stayL
  rw [List.filter_eq_self]
  intro t ht
  cases hp : p t with
  | false => rfl
  | true =>
    have hm : t ∈ goneL p l := List.mem_filter.2 ⟨ht, hp⟩
    rw [h] at hm
    cases hm
theorem gone_of_idOf {seq : Int} (hp : ∀ t ∈ l, 1 ≤ t.2.1) (h : idOf l seq = 0) : goneL (isS seq) l = [] := by
  rcases hg : goneL (isS seq) l with _ | ⟨t, r⟩
  · rfl
  · rw [idOf_cons hg] at h
    have := hp t ((goneL_sub (isS seq) l).subset (by rw [hg]; simp))
    omega
theorem LOk.ids (h : LOk up ep sq l) : ∀ t ∈ l, 1 ≤ t.2.1 := fun t ht => (h.rng t ht).2.2.1
theorem ansI_out {e seq : Int} (h : e ≠ ep) : ansI up ep sq l e seq = 0 := by
  unfold ansI ansB
  simp [h]
theorem ansL_out {e seq : Int} (h : e ≠ ep) : ansL up ep sq l e seq = l := by
  unfold ansL ansB
  simp [h]
/-- an answer that tells nothing changes nothing -/
theorem ansL_zero {e seq : Int} (h : ansI up ep sq l e seq = 0) : ansL up ep sq l e seq = l := by
  unfold ansI at h
  unfold ansL
  cases hb : ansB up ep sq l e with
  | false => simp
  | true =>
    rw [hb] at h
    unfold ansB at hb
    simp only [Bool.and_eq_true] at hb
    simp only [if_true] at h ⊢
    exact stay_of_gone (gone_of_idOf (lokB_iff.1 hb.1).ids h)
theorem ans_told {e seq : Int} (h : ansI up ep sq l e seq ≠ 0) : lokB up ep sq (ansL up ep sq l e seq) = true ∧ (ansL up ep sq l e seq).length + 1 = l.length ∧ 1 ≤ ansI up ep sq l e seq := by
  unfold ansI at h
  unfold ansL ansI
  cases hb : ansB up ep sq l e with
  | false => rw [hb] at h; simp at h
  | true =>
    rw [hb] at h
    unfold ansB at hb
    simp only [Bool.and_eq_true] at hb
    simp only [if_true] at h ⊢
    have hl := lokB_iff.1 hb.1
    refine ⟨lokB_true (hl.sub (stayL_sub _ _)), ?_⟩
    have h1 := gone_one hl.pw seq
    have h2 := part_len (isS seq) l
    rcases hg : goneL (isS seq) l with _ | ⟨t, r⟩
    · exact absurd (idOf_none hg) h
    · rw [hg] at h1 h2
      rw [idOf_cons hg]
      have := hl.ids t ((goneL_sub (isS seq) l).subset (by rw [hg]; simp))
      simp only [List.length_cons] at h1 h2
      exact ⟨by omega, this⟩
theorem ansL_ok {e seq : Int} (h : LOk up ep sq l) : LOk up ep sq (ansL up ep sq l e seq) := by
  unfold ansL
  split
  · exact h.sub (stayL_sub _ _)
  · exact h
theorem ansL_mem {e seq : Int} : ∀ t ∈ ansL up ep sq l e seq, t ∈ l := by
  unfold ansL
  split
  · exact fun t ht => (stayL_sub _ _).subset ht
  · exact fun t ht => ht
/-- what was launched, and the answers to it -/
theorem lau_yes {id un : Int} (h : lauB up ep sq l id un = true) : LOk up ep sq l ∧ LOk up ep (sq + 1) (l ++ [(sq + 1, id, un)]) := by
  unfold lauB at h
  simp only [Bool.and_eq_true] at h
  exact ⟨lokB_iff.1 h.1, lokB_iff.1 h.2⟩
theorem not_next (h : LOk up ep sq l) : goneL (isS (sq + 1)) l = [] := by
  unfold goneL
  rw [List.filter_eq_nil_iff]
  intro t ht
  have := (h.rng t ht).2.1
  simp [isS]
  omega
theorem lau_stay {id un : Int} (h : LOk up ep sq l) : stayL (isS (sq + 1)) (l ++ [(sq + 1, id, un)]) = l := by
  have h1 := stay_of_gone (not_next h)
  unfold stayL at h1 ⊢
  rw [List.filter_append, h1]
  simp [isS]
theorem lau_gone {id un : Int} (h : LOk up ep sq l) : goneL (isS (sq + 1)) (l ++ [(sq + 1, id, un)]) = [(sq + 1, id, un)] := by
  have h1 := not_next h
  unfold goneL at h1 ⊢
  rw [List.filter_append, h1]
  simp [isS]
theorem lau_ansL {id un : Int} (h : lauB up ep sq l id un = true) : ansL up ep (sq + 1) (l ++ [(sq + 1, id, un)]) ep (sq + 1) = l := by
  obtain ⟨h1, h2⟩ := lau_yes h
  unfold ansL ansB
  rw [lokB_true h2]
  simp [lau_stay h1]
theorem lau_ansI {id un : Int} (h : lauB up ep sq l id un = true) : ansI up ep (sq + 1) (l ++ [(sq + 1, id, un)]) ep (sq + 1) = id := by
  obtain ⟨h1, h2⟩ := lau_yes h
  unfold ansI ansB
  rw [lokB_true h2]
  simp [idOf_cons (lau_gone h1)]
theorem lau_again {id un : Int} (h : lauB up ep sq l id un = true) : ansI up ep (sq + 1) l ep (sq + 1) = 0 := by
  obtain ⟨h1, h2⟩ := lau_yes h
  unfold ansI
  split
  · exact idOf_none (not_next h1)
  · rfl
/-- when a launch is taken -/
theorem lau_can {id un : Int} (h : LOk up ep sq l) (hu : up = true) (hs : sq + 1 ≤ 60000) (hl : l.length < 8) (hi : 1 ≤ id ∧ id ≤ 9999) (hun : 0 ≤ un ∧ un ≤ 2000000000) (hn : ∀ t ∈ l, t.2.1 ≠ id) : lauB up ep sq l id un = true := by
  unfold lauB
  rw [lokB_true h, Bool.true_and]
  refine lokB_true ⟨h.e0, h.e1, by have := h.s0; omega, hs, by simp; omega, fun _ => hu, ?_, ?_⟩
  · rw [List.pairwise_append]
    refine ⟨h.pw, by simp, ?_⟩
    intro a ha b hb
    simp only [List.mem_singleton] at hb
    subst hb
    have := (h.rng a ha).2.1
    exact ⟨by show a.1 < sq + 1; omega, hn a ha⟩
  · intro t ht
    rcases List.mem_append.1 ht with ht | ht
    · have := h.rng t ht
      exact ⟨this.1, by omega, this.2.2⟩
    · simp only [List.mem_singleton] at ht
      subst ht
      have := h.s0
      exact ⟨by show 0 < sq + 1; omega, Int.le_refl _, hi.1, hi.2, hun.1, hun.2⟩
theorem lau_full {id un : Int} (h : 8 ≤ l.length) : lauB up ep sq l id un = false := by
  unfold lauB
  rw [lokB_false (sq := sq + 1) (fun hw => by have := hw.len; simp at this; omega), Bool.and_false]
end
end Go.Proofs.Ytjfhdelphfgojaa.Lnk
