/-
  Plain facts on lines: the parts of a list of bytes between bytes 10. No Go in sight.
-/
import Derived.Test.YtkpmbpfdlcdeaaaDoorKit
import Derived.Lib.Split
import Derived.Lib.SplitLaws
import Derived.Lib.Strings
namespace Go.Proofs.YtkpmbpfdlcdeaaaDoor.Line
open Go.RowKit
set_option linter.unusedVariables false

def consHead (c : UInt8) : List (List UInt8) → List (List UInt8)
  | p :: ps => (c :: p) :: ps
  | [] => [[c]]
/-- the parts between bytes 10; of the empty list one, which is empty -/
def lns : List UInt8 → List (List UInt8)
  | [] => [[]]
  | c :: t => if c = 10 then [] :: lns t else consHead c (lns t)
theorem lns_ne (l : List UInt8) : lns l ≠ [] := by
  cases l with
  | nil => simp [lns]
  | cons c t =>
    rw [lns]
    split
    · simp
    · cases lns t <;> simp [consHead]

theorem index_nil : Lib.index [] [10] = -1 := by rfl
theorem index_hit (t : List UInt8) : Lib.index (10 :: t) [10] = 0 := by unfold Lib.index; simp [List.isPrefixOf]
theorem index_step (c : UInt8) (t : List UInt8) (h : c ≠ 10) : Lib.index (c :: t) [10] = if Lib.index t [10] == -1 then -1 else Lib.index t [10] + 1 := by
  have h' : ¬ (10 : UInt8) = c := fun e => h e.symm
  conv => lhs; unfold Lib.index
  rw [if_neg (by simp [List.isPrefixOf, h'])]

theorem split_nil : Lib.split [] [10] = [[]] := by
  unfold Lib.split
  rw [Lib.count_miss index_nil]; rfl
theorem split_hit (t : List UInt8) : Lib.split (10 :: t) [10] = [] :: Lib.split t [10] := by
  unfold Lib.split
  rw [Lib.count_hit (i := 0) (by simp) (index_hit t), Nat.add_comm, Lib.splitK, if_neg (by rw [index_hit]; decide), index_hit]
  rfl
theorem split_miss (s : List UInt8) (h : Lib.index s [10] = -1) : Lib.split s [10] = [s] := by
  unfold Lib.split
  rw [Lib.count_miss h]; rfl
theorem split_at (s : List UInt8) (i : Nat) (h : Lib.index s [10] = i) : Lib.split s [10] = s.take i :: Lib.split (s.drop (i + 1)) [10] := by
  unfold Lib.split
  rw [Lib.count_hit (by simp) h, Nat.add_comm, Lib.splitK, if_neg (by rw [h]; simp), h]
  rfl
theorem split_step (c : UInt8) (t : List UInt8) (h : c ≠ 10) : Lib.split (c :: t) [10] = consHead c (Lib.split t [10]) := by
  have hs := index_step c t h
  by_cases hm : Lib.index t [10] = -1
  · rw [if_pos (by rw [hm]; rfl)] at hs
    rw [split_miss _ hs, split_miss _ hm]; rfl
  · have hge := Lib.index_ge t [10]
    obtain ⟨i, hi⟩ := Int.eq_ofNat_of_zero_le (show 0 ≤ Lib.index t [10] by omega)
    rw [if_neg (by rw [hi]; simp), hi] at hs
    rw [split_at (c :: t) (i + 1) (by rw [hs]; rfl), split_at t i hi]
    rfl
theorem split_lns (l : List UInt8) : Lib.split l [10] = lns l := by
  induction l with
  | nil => exact split_nil
  | cons c t ih =>
    rw [lns]
    by_cases h : c = 10
    · subst h; rw [if_pos rfl, split_hit, ih]
    · rw [if_neg h, split_step c t h, ih]

/-- as texts -/
def bts (l : List (List UInt8)) : List ByteArray := l.map fun p => ⟨p.toArray⟩
def lnsB (s : ByteArray) : List ByteArray := if s.size = 0 then [] else bts (lns s.data.toList)
theorem back_bts (l : List ByteArray) : bts (l.map (·.data.toList)) = l := by
  unfold bts
  rw [List.map_map]
  conv => rhs; rw [← List.map_id l]
  apply List.map_congr_left
  intro x _
  rfl
theorem splitB_lns (s : ByteArray) (h : s.size ≠ 0) : Lib.splitB ⟨#[10]⟩ 0 (Lib.countB s ⟨#[10]⟩) s = lnsB s := by
  unfold lnsB
  rw [if_neg h, ← split_lns, ← back_bts (Lib.splitB _ _ _ _), Lib.splitB_data]
  rfl
theorem lnsB_len (s : ByteArray) (h : s.size ≠ 0) : (lnsB s).length = Lib.countB s ⟨#[10]⟩ + 1 := by
  rw [← splitB_lns s h, Lib.splitB_all _ (by decide) _ _ _ rfl]

/-- the scan from the left: what is done, and what is under way -/
def scan (p : List (List UInt8) × List UInt8) (c : UInt8) : List (List UInt8) × List UInt8 := if c = 10 then (p.1 ++ [p.2], []) else (p.1, p.2 ++ [c])
def putHead (cur : List UInt8) : List (List UInt8) → List (List UInt8)
  | p :: ps => (cur ++ p) :: ps
  | [] => [cur]
theorem scan_all (l : List UInt8) : ∀ d cur, (l.foldl scan (d, cur)).1 ++ [(l.foldl scan (d, cur)).2] = d ++ putHead cur (lns l) := by
  induction l with
  | nil => intro d cur; simp [lns, putHead]
  | cons c t ih =>
    intro d cur
    rw [List.foldl_cons, lns]
    by_cases h : c = 10
    · subst h
      have e : scan (d, cur) 10 = (d ++ [cur], []) := by simp [scan]
      rw [e, if_pos rfl, ih]
      cases hl : lns t with
      | nil => exact absurd hl (lns_ne t)
      | cons p ps => simp [putHead]
    · have e : scan (d, cur) c = (d, cur ++ [c]) := by simp [scan, h]
      rw [e, if_neg h, ih]
      cases hl : lns t with
      | nil => exact absurd hl (lns_ne t)
      | cons p ps => simp [putHead, consHead]
def st (s : ByteArray) (k : Nat) : List (List UInt8) × List UInt8 := (s.data.toList.take k).foldl scan ([], [])
theorem st_zero (s : ByteArray) : st s 0 = ([], []) := by simp [st]
theorem st_succ (s : ByteArray) (k : Nat) (h : k < s.size) : st s (k + 1) = scan (st s k) s[k] := by
  unfold st
  rw [List.take_succ_eq_append_getElem (by simpa using h), List.foldl_append]; rfl
theorem st_end (s : ByteArray) (h : s.size ≠ 0) : bts ((st s s.size).1 ++ [(st s s.size).2]) = lnsB s := by
  unfold st lnsB
  rw [if_neg h, List.take_of_length_le (by simp), scan_all]
  cases hl : lns s.data.toList with
  | nil => exact absurd hl (lns_ne _)
  | cons p ps => simp [putHead]
theorem st_le (s : ByteArray) (k : Nat) : (st s k).1.length ≤ k := by
  induction k with
  | zero => simp [st]
  | succ k ih =>
    by_cases h : k < s.size
    · rw [st_succ s k h, scan]; split <;> simp <;> omega
    · have : st s (k + 1) = st s k := by
        unfold st; rw [List.take_of_length_le (by simp; omega), List.take_of_length_le (by simp; omega)]
      rw [this]; omega
theorem bts_snoc (l : List (List UInt8)) (p : List UInt8) : bts (l ++ [p]) = bts l ++ [⟨p.toArray⟩] := by simp [bts]
theorem bts_len (l : List (List UInt8)) : (bts l).length = l.length := by simp [bts]
theorem cur_hit (s : ByteArray) (k f : Nat) (hf : f ≤ k) (hk : k < s.size) (h : (st s k).2 = (s.data.toList.drop f).take (k - f)) : (⟨(st s k).2.toArray⟩ : ByteArray) = s.extract f k := by
  apply ByteArray.ext
  apply Array.ext'
  rw [Lib.extract_data, h]
theorem cur_last (s : ByteArray) (f : Nat) (h : (st s s.size).2 = (s.data.toList.drop f).take (s.size - f)) : (⟨(st s s.size).2.toArray⟩ : ByteArray) = s.extract f s.size := by
  apply ByteArray.ext
  apply Array.ext'
  rw [Lib.extract_data, h]
theorem cur_step (s : ByteArray) (k f : Nat) (hf : f ≤ k) (hk : k < s.size) (hc : s[k] ≠ 10) (h : (st s k).2 = (s.data.toList.drop f).take (k - f)) : (st s (k + 1)).2 = (s.data.toList.drop f).take (k + 1 - f) ∧ (st s (k + 1)).1 = (st s k).1 := by
  have e : scan (st s k) s[k] = ((st s k).1, (st s k).2 ++ [s[k]]) := by unfold scan; rw [if_neg hc]
  rw [st_succ s k hk, e]
  refine ⟨?_, rfl⟩
  show (st s k).2 ++ [s[k]] = _
  have h1 : k - f < (s.data.toList.drop f).length := by rw [List.length_drop, Array.length_toList]; have : s.data.size = s.size := rfl; omega
  rw [h, show k + 1 - f = (k - f) + 1 by omega, List.take_succ_eq_append_getElem h1, List.getElem_drop]
  congr 2
  have e2 : f + (k - f) = k := by omega
  simp only [e2]
  rfl
theorem cur_new (s : ByteArray) (k : Nat) (hk : k < s.size) (hc : s[k] = 10) : (st s (k + 1)).2 = (s.data.toList.drop (k + 1)).take (k + 1 - (k + 1)) ∧ (st s (k + 1)).1 = (st s k).1 ++ [(st s k).2] := by
  have e : scan (st s k) s[k] = ((st s k).1 ++ [(st s k).2], []) := by unfold scan; rw [if_pos hc]
  rw [st_succ s k hk, e]
  simp
theorem isNl (c : UInt8) (h : c = 10) : ((c.toNat : Int) == 10) = true := by subst h; rfl
theorem notNl (c : UInt8) (h : c ≠ 10) : ((c.toNat : Int) == 10) = false := by
  rw [beq_eq_false_iff_ne]
  intro e; apply h; apply UInt8.toNat_inj.1; have : c.toNat = 10 := by omega
  rw [this]; rfl
theorem ne_empty (s : ByteArray) (h : s.size ≠ 0) : s.toList.isEmpty = false := by
  rw [Lib.toList_data]
  cases hl : s.data.toList with
  | nil => have : s.data.toList.length = s.size := by simp
           rw [hl] at this; simp at this; omega
  | cons _ _ => rfl
theorem is_empty (s : ByteArray) (h : s.size = 0) : s.toList = [] := by
  rw [Lib.toList_data]
  exact List.eq_nil_of_length_eq_zero (by simpa using h)
theorem str_oneCell (s : ByteArray) : (Value.string s).oneCell' = true := rfl
theorem lnsB_le (s : ByteArray) : (lnsB s).length ≤ s.size + 1 := by
  by_cases h : s.size = 0
  · unfold lnsB; rw [if_pos h]; simp
  · rw [lnsB_len s h]
    have := Lib.countB_le ⟨#[10]⟩ (by decide) s.size s (Nat.le_refl _)
    omega
end Go.Proofs.YtkpmbpfdlcdeaaaDoor.Line
