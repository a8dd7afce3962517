/-
  Plain facts on words: the parts of a list of bytes without blanks and bytes 9. No Go in sight.
-/
import Derived.Test.YtjcopkjapnieoaaDoorKit
import Derived.Lib.Strings
namespace Go.Proofs.YtjcopkjapnieoaaDoor.Word
open Go.RowKit
set_option linter.unusedVariables false

def isGap (c : UInt8) : Prop := c = 32 ∨ c = 9
instance (c : UInt8) : Decidable (isGap c) := by unfold isGap; infer_instance
def flush (p : List (List UInt8) × List UInt8) : List (List UInt8) := if p.2 = [] then p.1 else p.1 ++ [p.2]
def step (p : List (List UInt8) × List UInt8) (c : UInt8) : List (List UInt8) × List UInt8 := if isGap c then (flush p, []) else (p.1, p.2 ++ [c])
/-- the scan behind k bytes -/
def st (s : ByteArray) (k : Nat) : List (List UInt8) × List UInt8 := (s.data.toList.take k).foldl step ([], [])
def bts (l : List (List UInt8)) : List ByteArray := l.map fun p => ⟨p.toArray⟩
/-- the words -/
def wdsB (s : ByteArray) : List ByteArray := bts (flush (st s s.size))
theorem bts_snoc (l : List (List UInt8)) (p : List UInt8) : bts (l ++ [p]) = bts l ++ [⟨p.toArray⟩] := by simp [bts]
theorem bts_len (l : List (List UInt8)) : (bts l).length = l.length := by simp [bts]
theorem st_zero (s : ByteArray) : st s 0 = ([], []) := by simp [st]
theorem st_succ (s : ByteArray) (k : Nat) (h : k < s.size) : st s (k + 1) = step (st s k) s[k] := by
  unfold st
  rw [List.take_succ_eq_append_getElem (by simpa using h), List.foldl_append]; rfl
theorem flush_len (p : List (List UInt8) × List UInt8) : (flush p).length ≤ p.1.length + 1 := by
  unfold flush; split <;> simp
theorem st_le (s : ByteArray) (k : Nat) : (st s k).1.length + (if (st s k).2 = [] then 0 else 1) ≤ k := by
  induction k with
  | zero => simp [st]
  | succ k ih =>
    by_cases h : k < s.size
    · rw [st_succ s k h, step]
      split
      · unfold flush
        split
        · rename_i h2; rw [if_pos h2] at ih; simp; omega
        · rename_i h2; rw [if_neg h2] at ih; simp; omega
      · simp; split at ih <;> omega
    · have : st s (k + 1) = st s k := by
        unfold st; rw [List.take_of_length_le (by simp; omega), List.take_of_length_le (by simp; omega)]
      rw [this]; omega
theorem flush_le (s : ByteArray) (k : Nat) : (flush (st s k)).length ≤ k := by
  have := st_le s k
  unfold flush
  split
  · rename_i h; rw [if_pos h] at this; omega
  · rename_i h; rw [if_neg h] at this; simp; omega
theorem one_le (s : ByteArray) (k : Nat) : (st s k).1.length ≤ k := by have := st_le s k; omega
theorem wdsB_le (s : ByteArray) : (wdsB s).length ≤ s.size := by unfold wdsB; rw [bts_len]; exact flush_le s s.size

theorem st_gap (s : ByteArray) (k : Nat) (h : k < s.size) (hg : isGap s[k]) : st s (k + 1) = (flush (st s k), []) := by
  rw [st_succ s k h, step, if_pos hg]
theorem st_not (s : ByteArray) (k : Nat) (h : k < s.size) (hg : ¬ isGap s[k]) : st s (k + 1) = ((st s k).1, (st s k).2 ++ [s[k]]) := by
  rw [st_succ s k h, step, if_neg hg]
theorem flush_none {p : List (List UInt8) × List UInt8} (h : p.2 = []) : flush p = p.1 := by unfold flush; rw [if_pos h]
theorem flush_some {p : List (List UInt8) × List UInt8} (h : p.2 ≠ []) : flush p = p.1 ++ [p.2] := by unfold flush; rw [if_neg h]
/-- what is under way is a piece of the text -/
def Cur (s : ByteArray) (f k : Nat) : Prop := f ≤ k ∧ k ≤ s.size ∧ (st s k).2 = (s.data.toList.drop f).take (k - f)
theorem Cur.len {s : ByteArray} {f k : Nat} (h : Cur s f k) : (st s k).2.length = k - f := by
  obtain ⟨h1, h2, h3⟩ := h
  rw [h3, List.length_take, List.length_drop, Array.length_toList]
  have : s.data.size = s.size := rfl
  omega
theorem Cur.none_iff {s : ByteArray} {f k : Nat} (h : Cur s f k) : (st s k).2 = [] ↔ f = k := by
  have := h.len
  have h1 := h.1
  constructor
  · intro e; rw [e] at this; simp at this; omega
  · intro e; exact List.eq_nil_of_length_eq_zero (by omega)
theorem Cur.text {s : ByteArray} {f k : Nat} (h : Cur s f k) : (⟨(st s k).2.toArray⟩ : ByteArray) = s.extract f k := by
  apply ByteArray.ext
  apply Array.ext'
  rw [Lib.extract_data, h.2.2]
theorem Cur.next {s : ByteArray} {f k : Nat} (h : Cur s f k) (hk : k < s.size) (hg : ¬ isGap s[k]) : Cur s f (k + 1) := by
  obtain ⟨h1, h2, h3⟩ := h
  refine ⟨by omega, by omega, ?_⟩
  rw [st_not s k hk hg]
  show (st s k).2 ++ [s[k]] = _
  have hl : k - f < (s.data.toList.drop f).length := by rw [List.length_drop, Array.length_toList]; have : s.data.size = s.size := rfl; omega
  rw [h3, show k + 1 - f = (k - f) + 1 by omega, List.take_succ_eq_append_getElem hl, List.getElem_drop]
  congr 2
  have e2 : f + (k - f) = k := by omega
  simp only [e2]
  rfl
theorem Cur.new {s : ByteArray} {k : Nat} (hk : k ≤ s.size) (h : (st s k).2 = []) : Cur s k k := ⟨Nat.le_refl _, hk, by rw [h]; simp⟩
theorem Cur.gap {s : ByteArray} {k : Nat} (hk : k < s.size) (hg : isGap s[k]) : Cur s (k + 1) (k + 1) := Cur.new (by omega) (by rw [st_gap s k hk hg])
theorem gap_num (c : UInt8) (h : isGap c) : (c.toNat : Int) = 32 ∨ (c.toNat : Int) = 9 := by
  rcases h with rfl | rfl
  · exact .inl rfl
  · exact .inr rfl
theorem not_gap_num (c : UInt8) (h : ¬ isGap c) : (c.toNat : Int) ≠ 32 ∧ (c.toNat : Int) ≠ 9 := by
  constructor
  · intro e; apply h; left; apply UInt8.toNat_inj.1; have : c.toNat = 32 := by omega
    rw [this]; rfl
  · intro e; apply h; right; apply UInt8.toNat_inj.1; have : c.toNat = 9 := by omega
    rw [this]; rfl
end Go.Proofs.YtjcopkjapnieoaaDoor.Word
