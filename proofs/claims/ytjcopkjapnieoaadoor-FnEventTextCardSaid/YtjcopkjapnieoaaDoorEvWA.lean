/-
  The words of a right message's text: its seven numbers, and the word for its status.
-/
import Derived.Test.YtjcopkjapnieoaaDoorEvTA
import Derived.Test.YtjcopkjapnieoaaDoorWordA
import Derived.Lib.ItoaNum
namespace Go.Proofs.YtjcopkjapnieoaaDoor.Evt
open Go.RowKit Go.Proofs.YtjcopkjapnieoaaDoor.Word
set_option linter.unusedVariables false

/-- a word: not empty, without gaps -/
def Wrd (p : List UInt8) : Prop := p ≠ [] ∧ ∀ c ∈ p, ¬ isGap c
theorem digits_dig (u : Nat) : ∀ c ∈ Lib.decDigits u, 48 ≤ c.toNat ∧ c.toNat ≤ 57 := by
  intro c hc
  rw [Lib.decDigits_eq] at hc
  obtain ⟨t, _, rfl⟩ := List.mem_map.1 hc
  obtain ⟨x, hx⟩ : ∃ x, x = u / 10 ^ (Lib.nDigits u - 1 - t) % 10 := ⟨_, rfl⟩
  have hx10 : x < 10 := by rw [hx]; exact Nat.mod_lt _ (by omega)
  have hd : Lib.dg u (Lib.nDigits u - 1 - t) = UInt8.ofNat (48 + x) := by rw [hx]; rfl
  rw [hd]
  simp only [UInt8.toNat_ofNat']
  omega
theorem digits_no_gap (u : Nat) : ∀ c ∈ Lib.decDigits u, ¬ isGap c := by
  intro c hc hg
  have := digits_dig u c hc
  rcases hg with rfl | rfl <;> simp at this
theorem digits_ne (u : Nat) : Lib.decDigits u ≠ [] := by
  intro h
  have h1 := Lib.decDigits_length u
  have h2 := Lib.nDigits_pos u
  rw [h] at h1
  simp at h1
  omega
theorem itoa_word {n : Int} (h : 0 ≤ n) : Wrd (Lib.itoa n) := by
  obtain ⟨u, rfl⟩ := Int.eq_ofNat_of_zero_le h
  rw [Lib.itoa_nonneg]
  exact ⟨digits_ne u, digits_no_gap u⟩
theorem stN_word {s : Int} (h0 : 0 ≤ s) (h1 : s ≤ 3) : Wrd (stN s) := by
  rcases (show s = 0 ∨ s = 1 ∨ s = 2 ∨ s = 3 by omega) with rfl | rfl | rfl | rfl <;> exact ⟨by decide, by simp [stN, stL, isGap]⟩
theorem run_word (q : List UInt8) (h : ∀ c ∈ q, ¬ isGap c) : ∀ (L : List (List UInt8)) p, q.foldl Word.step (L, p) = (L, p ++ q) := by
  induction q with
  | nil => intro L p; simp
  | cons c q ih =>
    intro L p
    rw [List.foldl_cons, show Word.step (L, p) c = (L, p ++ [c]) from by unfold Word.step; rw [if_neg (h c (by simp))], ih (fun x hx => h x (by simp [hx]))]
    simp
theorem run_head (L : List Int) (h : ∀ x ∈ L, 0 ≤ x) : ∀ d, (headE L).foldl Word.step (d, []) = (d ++ L.map Lib.itoa, []) := by
  induction L with
  | nil => intro d; simp [headE]
  | cons x L ih =>
    intro d
    have hx := itoa_word (h x (by simp))
    have e : headE (x :: L) = Lib.itoa x ++ ([32] ++ headE L) := by unfold headE; rw [List.flatMap_cons]; simp
    rw [e, List.foldl_append, run_word _ hx.2, List.foldl_append, List.nil_append]
    have e2 : [32].foldl Word.step (d, Lib.itoa x) = (d ++ [Lib.itoa x], []) := by
      show Word.step (d, Lib.itoa x) 32 = _
      unfold Word.step
      rw [if_pos (.inl rfl), flush_some hx.1]
    rw [e2, ih (fun y hy => h y (by simp [hy]))]
    simp
theorem st_whole (l : List UInt8) : st ⟨l.toArray⟩ (⟨l.toArray⟩ : ByteArray).size = l.foldl Word.step ([], []) := by
  unfold st
  rw [show (⟨l.toArray⟩ : ByteArray).data.toList = l by simp, List.take_of_length_le (by show l.length ≤ l.toArray.size; simp)]
/-- the words of a right message's text -/
theorem words_right {i d c : Int} {m : Nat} {a t r n s : Int} (h : EOk i d c m a t r n s) :
    wdsB ⟨(textE i d c m a t r n s).toArray⟩ = Word.bts ((numsE i d c a t r n).map Lib.itoa ++ [stN s]) := by
  have hs : 0 ≤ s ∧ s ≤ 3 := by unfold EOk at h; omega
  have hw := stN_word hs.1 hs.2
  unfold wdsB
  rw [st_whole, show textE i d c m a t r n s = headE (numsE i d c a t r n) ++ stN s from if_pos h, List.foldl_append, run_head _ (fun x hx => (numsE_bd h x hx).1), run_word _ hw.2]
  rw [List.nil_append, List.nil_append, flush_some hw.1]
theorem text_size {i d c : Int} {m : Nat} {a t r n s : Int} : (⟨(textE i d c m a t r n s).toArray⟩ : ByteArray).size ≤ 200 := by
  show (textE i d c m a t r n s).toArray.size ≤ 200
  rw [List.size_toArray]
  unfold textE
  split
  · rename_i h
    have h1 := head_take_le h 7 (by omega)
    rw [show (numsE i d c a t r n).take 7 = numsE i d c a t r n from rfl] at h1
    have hs : 0 ≤ s ∧ s ≤ 3 := by unfold EOk at h; omega
    have h2 := stN_le hs.1 hs.2
    rw [List.length_append]
    omega
  · simp
end Go.Proofs.YtjcopkjapnieoaaDoor.Evt
