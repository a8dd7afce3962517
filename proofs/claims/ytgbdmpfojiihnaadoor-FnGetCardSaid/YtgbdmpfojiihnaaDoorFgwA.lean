/-
  The words of a frame's text: five, six where it is a send, none where the frame isn't right.
-/
import Derived.Test.YtgbdmpfojiihnaaDoorFtxW
import Derived.Test.YtgbdmpfojiihnaaDoorWordA
import Derived.Lib.ItoaNum
namespace Go.Proofs.YtgbdmpfojiihnaaDoor.Frm
open Go.Proofs.YtgbdmpfojiihnaaDoor.Word
set_option linter.unusedVariables false

theorem digits_dig (u : Nat) : ∀ c ∈ Lib.decDigits u, 48 ≤ c.toNat ∧ c.toNat ≤ 57 := by
  intro c hc
  rw [Lib.decDigits_eq] at hc
  obtain ⟨t, _, rfl⟩ := List.mem_map.1 hc
  obtain ⟨x, hx⟩ : ∃ x, x = u / 10 ^ (Lib.nDigits u - 1 - t) % 10 := ⟨_, rfl⟩
  have hx10 : x < 10 := by rw [hx]; exact Nat.mod_lt _ (by omega)
  have hd : Lib.dg u (Lib.nDigits u - 1 - t) = UInt8.ofNat (48 + x) := by rw [hx]; rfl
  rw [hd]
  simp only [UInt8.toNat_ofNat']
  omega
theorem digits_no_gap (u : Nat) : ∀ c ∈ Lib.decDigits u, ¬ isGap c := by
  intro c hc hg
  have := digits_dig u c hc
  rcases hg with rfl | rfl <;> simp at this
theorem digits_ne (u : Nat) : Lib.decDigits u ≠ [] := by
  intro h
  have h1 := Lib.decDigits_length u
  have h2 := Lib.nDigits_pos u
  rw [h] at h1
  simp at h1
  omega
theorem itoa_word (n : Int) (h : 0 ≤ n) : Lib.itoa n ≠ [] ∧ ∀ c ∈ Lib.itoa n, ¬ isGap c := by
  obtain ⟨u, rfl⟩ := Int.eq_ofNat_of_zero_le h
  rw [Lib.itoa_nonneg]
  exact ⟨digits_ne u, digits_no_gap u⟩
theorem run_word (L : List (List UInt8)) (q : List UInt8) : ∀ p, (∀ c ∈ q, ¬ isGap c) → q.foldl Word.step (L, p) = (L, p ++ q) := by
  induction q with
  | nil => intro p _; simp
  | cons c q ih =>
    intro p h
    rw [List.foldl_cons, show Word.step (L, p) c = (L, p ++ [c]) from by unfold Word.step; rw [if_neg (h c (by simp))], ih _ (fun x hx => h x (by simp [hx]))]
    simp
theorem run_blk (L : List (List UInt8)) (p : List UInt8) (hp : p ≠ []) (n : Int) (hn : 0 ≤ n) : (blk n).foldl Word.step (L, p) = (L ++ [p], Lib.itoa n) := by
  rw [blk, List.foldl_cons, show Word.step (L, p) 32 = (L ++ [p], []) from by unfold Word.step; rw [if_pos (.inl rfl), flush_some hp], run_word _ _ _ (itoa_word n hn).2]
  simp
theorem kn_word (k : Int) (h : 1 ≤ k ∧ k ≤ 4) : kn k ≠ [] ∧ ∀ c ∈ kn k, ¬ isGap c := by
  rcases (show k = 1 ∨ k = 2 ∨ k = 3 ∨ k = 4 by omega) with rfl | rfl | rfl | rfl <;> simp [kn, isGap]
theorem st_whole (l : List UInt8) : st ⟨l.toArray⟩ (⟨l.toArray⟩ : ByteArray).size = l.foldl Word.step ([], []) := by
  unfold st
  rw [show (⟨l.toArray⟩ : ByteArray).data.toList = l by simp, List.take_of_length_le (by show l.length ≤ l.toArray.size; simp)]
/-- how many words a frame's text has -/
def manyF (k d e s i : Int) (n : Nat) : Nat := if FOk k d e s i n then (if k = 1 then 6 else 5) else 0
theorem words_text (k d e s i : Int) (n : Nat) : (wdsB ⟨(textF k d e s i n).toArray⟩).length = manyF k d e s i n := by
  unfold wdsB manyF
  rw [bts_len, st_whole]
  by_cases h : FOk k d e s i n
  · obtain ⟨h1, h2, h3, h4, h5, h6, h7, h8, h9, h10, h11⟩ := h.bounds
    have hk1 : 1 ≤ k := by have := h; unfold FOk at this; omega
    obtain ⟨kn1, kn2⟩ := kn_word k ⟨hk1, h2⟩
    rw [textF, if_pos h, if_pos h]
    have hf : (kn k ++ fourT d e s i).foldl Word.step ([], []) = ([kn k, Lib.itoa d, Lib.itoa e, Lib.itoa s], Lib.itoa i) := by
      rw [fourT, List.foldl_append, run_word _ _ _ kn2, List.nil_append]
      rw [List.foldl_append, List.foldl_append, List.foldl_append]
      rw [run_blk _ _ kn1 d h3, run_blk _ _ (itoa_word d h3).1 e h5, run_blk _ _ (itoa_word e h5).1 s h7, run_blk _ _ (itoa_word s h7).1 i h9]
      simp
    by_cases hk : k = 1
    · rw [if_pos hk, if_pos hk, List.foldl_append, hf, run_blk _ _ (itoa_word i h9).1 _ (by omega), flush_some (itoa_word (n : Int) (by omega)).1]
      simp
    · rw [if_neg hk, if_neg hk, hf, flush_some (itoa_word i h9).1]
      simp
  · rw [textF, if_neg h, if_neg h]
    simp [flush]
end Go.Proofs.YtgbdmpfojiihnaaDoor.Frm
