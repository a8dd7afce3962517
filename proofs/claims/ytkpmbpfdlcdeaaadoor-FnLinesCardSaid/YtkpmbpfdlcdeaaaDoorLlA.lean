/-
  Plain facts for the law on lines and words: lines with line ends between are the text, words with blanks behind are these words. No Go in sight.
-/
import Derived.Test.YtkpmbpfdlcdeaaaDoorLineA
import Derived.Test.YtkpmbpfdlcdeaaaDoorWordA
namespace Go.Proofs.YtkpmbpfdlcdeaaaDoor.Ll
open Go.RowKit
set_option linter.unusedVariables false

def joinAcc (a : List UInt8) (l : List (List UInt8)) : List UInt8 := l.foldl (fun a p => a ++ 10 :: p) a
theorem joinAcc_app (a b : List UInt8) (l : List (List UInt8)) : joinAcc (a ++ b) l = a ++ joinAcc b l := by
  unfold joinAcc
  induction l generalizing b with
  | nil => rfl
  | cons p ps ih => rw [List.foldl_cons, List.foldl_cons, List.append_assoc, ih]
theorem joinAcc_len (a : List UInt8) (l : List (List UInt8)) : a.length ≤ (joinAcc a l).length := by
  unfold joinAcc
  induction l generalizing a with
  | nil => exact Nat.le_refl _
  | cons p ps ih => rw [List.foldl_cons]; exact Nat.le_trans (by simp) (ih (a ++ 10 :: p))
def J : List (List UInt8) → List UInt8
  | [] => []
  | p :: ps => joinAcc p ps
theorem J_lns (l : List UInt8) : J (Line.lns l) = l := by
  induction l with
  | nil => rfl
  | cons c t ih =>
    rw [Line.lns]
    cases hl : Line.lns t with
    | nil => exact absurd hl (Line.lns_ne t)
    | cons q qs =>
      rw [hl] at ih
      have ih' : joinAcc q qs = t := ih
      by_cases h : c = 10
      · subst h
        rw [if_pos rfl]
        show joinAcc ([] ++ 10 :: q) qs = _
        rw [show ([] : List UInt8) ++ 10 :: q = [10] ++ q from rfl, joinAcc_app, ih']; rfl
      · rw [if_neg h]
        show joinAcc ([c] ++ q) qs = _
        rw [joinAcc_app, ih']; rfl
theorem J_snoc (m : List (List UInt8)) (p : List UInt8) (h : m ≠ []) : J (m ++ [p]) = J m ++ 10 :: p := by
  cases m with
  | nil => exact absurd rfl h
  | cons q qs => show joinAcc q (qs ++ [p]) = _; unfold joinAcc; rw [List.foldl_append]; rfl
theorem J_take_len (m : List (List UInt8)) (k : Nat) : (J (m.take k)).length ≤ (J m).length := by
  cases m with
  | nil => simp
  | cons q qs =>
    cases k with
    | zero => simp [J]
    | succ k =>
      show (joinAcc q (qs.take k)).length ≤ (joinAcc q qs).length
      conv => rhs; rw [← List.take_append_drop k qs]
      have : joinAcc q (qs.take k ++ qs.drop k) = joinAcc (joinAcc q (qs.take k)) (qs.drop k) := by unfold joinAcc; rw [List.foldl_append]
      rw [this]
      exact joinAcc_len _ _
/-- the text that the law puts together: k lines of L -/
def jB (L : List ByteArray) : Nat → ByteArray
  | 0 => ⟨#[]⟩
  | k + 1 => (if k = 0 then jB L k else jB L k ++ ⟨#[10]⟩) ++ L.getD k ByteArray.empty
theorem getD_bts (m : List (List UInt8)) (k : Nat) (h : k < m.length) : (Line.bts m).getD k ByteArray.empty = ⟨m[k].toArray⟩ := by
  rw [List.getD_eq_getElem?_getD, List.getElem?_eq_getElem (by rw [Line.bts_len]; exact h)]
  simp [Line.bts]
theorem jB_data (m : List (List UInt8)) (k : Nat) (h : k ≤ m.length) : (jB (Line.bts m) k).data.toList = J (m.take k) := by
  induction k with
  | zero => simp [jB, J]
  | succ k ih =>
    have hk := ih (by omega)
    rw [jB, getD_bts m k (by omega), List.take_succ_eq_append_getElem (by omega)]
    by_cases h0 : k = 0
    · subst h0
      rw [if_pos rfl, ByteArray.data_append, Array.toList_append, hk]
      simp [J, joinAcc]
    · rw [if_neg h0, ByteArray.data_append, ByteArray.data_append, Array.toList_append, Array.toList_append, hk, J_snoc _ _ (by intro e; have := congrArg List.length e; rw [List.length_take, List.length_nil] at this; omega)]
      simp
def lnsL (s : ByteArray) : List (List UInt8) := if s.size = 0 then [] else Line.lns s.data.toList
theorem lnsB_bts (s : ByteArray) : Line.lnsB s = Line.bts (lnsL s) := by unfold Line.lnsB lnsL; split <;> rfl
theorem J_lnsL (s : ByteArray) : J (lnsL s) = s.data.toList := by
  unfold lnsL
  split
  · rename_i h; rw [show s.data.toList = [] from List.eq_nil_of_length_eq_zero (by simpa using h)]; rfl
  · exact J_lns _
theorem lnsL_len (s : ByteArray) : (lnsL s).length = (Line.lnsB s).length := by rw [lnsB_bts, Line.bts_len]
theorem jB_end (s : ByteArray) : jB (Line.lnsB s) (Line.lnsB s).length = s := by
  apply ByteArray.ext
  apply Array.ext'
  rw [← lnsL_len, lnsB_bts, jB_data _ _ (Nat.le_refl _), List.take_length, J_lnsL]
theorem jB_size (s : ByteArray) (k : Nat) (h : k ≤ (Line.lnsB s).length) : (jB (Line.lnsB s) k).size ≤ s.size := by
  have h1 : (jB (Line.lnsB s) k).data.toList.length ≤ s.data.toList.length := by
    rw [lnsB_bts, jB_data _ _ (by rw [lnsL_len]; exact h)]
    have := J_take_len (lnsL s) k
    rw [J_lnsL] at this
    exact this
  simpa using h1

/-! ### words -/
/-- what every word keeps: not empty, no gap, no longer than the text -/
def Fine (n : Nat) (p : List UInt8) : Prop := p ≠ [] ∧ (∀ c ∈ p, ¬ Word.isGap c) ∧ p.length ≤ n
theorem scan_fine (l : List UInt8) : ∀ (n : Nat) (d : List (List UInt8)) (cur : List UInt8), (∀ p ∈ d, Fine (n + l.length) p) → (∀ c ∈ cur, ¬ Word.isGap c) → cur.length ≤ n →
    (∀ p ∈ (l.foldl Word.step (d, cur)).1, Fine (n + l.length) p) ∧ (∀ c ∈ (l.foldl Word.step (d, cur)).2, ¬ Word.isGap c) ∧ (l.foldl Word.step (d, cur)).2.length ≤ n + l.length := by
  induction l with
  | nil => intro n d cur h1 h2 h3; exact ⟨h1, h2, by simpa using h3⟩
  | cons c t ih =>
    intro n d cur h1 h2 h3
    rw [List.foldl_cons]
    have hn : n + (c :: t).length = (n + 1) + t.length := by simp; omega
    rw [hn] at h1 ⊢
    by_cases hg : Word.isGap c
    · have e : Word.step (d, cur) c = (Word.flush (d, cur), []) := by simp [Word.step, hg]
      rw [e]
      refine ih (n + 1) _ _ ?_ (by simp) (by simp)
      intro p hp
      unfold Word.flush at hp
      split at hp
      · exact h1 p hp
      · rename_i hne
        rcases List.mem_append.1 hp with hp | hp
        · exact h1 p hp
        · rw [List.mem_singleton] at hp; rw [hp]; exact ⟨hne, h2, Nat.le_trans h3 (by omega)⟩
    · have e : Word.step (d, cur) c = (d, cur ++ [c]) := by simp [Word.step, hg]
      rw [e]
      refine ih (n + 1) _ _ h1 ?_ (by simp; omega)
      intro x hx
      rcases List.mem_append.1 hx with hx | hx
      · exact h2 x hx
      · rw [List.mem_singleton] at hx; subst hx; exact hg
/-- the words of a text, as lists -/
def wdsL (s : ByteArray) : List (List UInt8) := Word.flush (Word.st s s.size)
theorem wdsL_fine (s : ByteArray) : ∀ p ∈ wdsL s, Fine s.size p := by
  have hs : Word.st s s.size = s.data.toList.foldl Word.step ([], []) := by unfold Word.st; rw [List.take_of_length_le (by simp)]
  have h := scan_fine s.data.toList 0 [] [] (by simp) (by simp) (by simp)
  rw [← hs] at h
  simp only [Array.length_toList, Nat.zero_add] at h
  have e : s.data.size = s.size := rfl
  rw [e] at h
  intro p hp
  unfold wdsL Word.flush at hp
  split at hp
  · exact h.1 p hp
  · rename_i hne
    rcases List.mem_append.1 hp with hp | hp
    · exact h.1 p hp
    · rw [List.mem_singleton] at hp; subst hp; exact ⟨hne, h.2.1, h.2.2⟩
theorem scan_word (w : List UInt8) (h : ∀ c ∈ w, ¬ Word.isGap c) : ∀ d cur, w.foldl Word.step (d, cur) = (d, cur ++ w) := by
  induction w with
  | nil => intro d cur; simp
  | cons c t ih =>
    intro d cur
    have e : Word.step (d, cur) c = (d, cur ++ [c]) := by simp [Word.step, h c (by simp)]
    rw [List.foldl_cons, e, ih (fun x hx => h x (List.mem_cons_of_mem _ hx))]; simp
theorem scan_one (w : List UInt8) (h : ∀ c ∈ w, ¬ Word.isGap c) (hne : w ≠ []) (d : List (List UInt8)) : (w ++ [32]).foldl Word.step (d, []) = (d ++ [w], []) := by
  rw [List.foldl_append, scan_word w h]
  have hg : Word.isGap 32 := .inl rfl
  simp [Word.step, hg, Word.flush, hne]
theorem scan_words (m : List (List UInt8)) (n : Nat) (h : ∀ p ∈ m, Fine n p) : ∀ d, (m.flatMap (· ++ [32])).foldl Word.step (d, []) = (d ++ m, []) := by
  induction m with
  | nil => intro d; simp
  | cons w t ih =>
    intro d
    have hw := h w (by simp)
    rw [List.flatMap_cons, List.foldl_append, scan_one w hw.2.1 hw.1, ih (fun p hp => h p (List.mem_cons_of_mem _ hp))]; simp
/-- the line that the law puts together: k words of L, a blank behind each -/
def wB (L : List ByteArray) : Nat → ByteArray
  | 0 => ⟨#[]⟩
  | k + 1 => (wB L k ++ L.getD k ByteArray.empty) ++ ⟨#[32]⟩
theorem wgetD_bts (m : List (List UInt8)) (k : Nat) (h : k < m.length) : (Word.bts m).getD k ByteArray.empty = ⟨m[k].toArray⟩ := by
  rw [List.getD_eq_getElem?_getD, List.getElem?_eq_getElem (by rw [Word.bts_len]; exact h)]
  simp [Word.bts]
theorem wB_data (m : List (List UInt8)) (k : Nat) (h : k ≤ m.length) : (wB (Word.bts m) k).data.toList = (m.take k).flatMap (· ++ [32]) := by
  induction k with
  | zero => simp [wB]
  | succ k ih =>
    rw [wB, wgetD_bts m k (by omega), List.take_succ_eq_append_getElem (by omega), ByteArray.data_append, ByteArray.data_append, Array.toList_append, Array.toList_append, ih (by omega), List.flatMap_append]
    simp
theorem wdsB_bts (s : ByteArray) : Word.wdsB s = Word.bts (wdsL s) := rfl
theorem words_back (s : ByteArray) : Word.wdsB (wB (Word.wdsB s) (Word.wdsB s).length) = Word.wdsB s := by
  obtain ⟨x, hx⟩ : ∃ x, x = wB (Word.wdsB s) (Word.wdsB s).length := ⟨_, rfl⟩
  have hd : x.data.toList = (wdsL s).flatMap (· ++ [32]) := by
    rw [hx, wdsB_bts, Word.bts_len, wB_data _ _ (Nat.le_refl _), List.take_length]
  rw [← hx]
  unfold Word.wdsB Word.st
  rw [List.take_of_length_le (by simp), hd, scan_words _ _ (wdsL_fine s)]
  simp [Word.flush]
  rfl
theorem wB_size (s : ByteArray) (hs : s.size ≤ 12) (k : Nat) (h : k ≤ (Word.wdsB s).length) : (wB (Word.wdsB s) k).size ≤ k * 13 := by
  induction k with
  | zero => exact Nat.le_refl _
  | succ k ih =>
    have h1 := ih (by omega)
    have hk : k < (wdsL s).length := by rw [wdsB_bts, Word.bts_len] at h; omega
    have hf := (wdsL_fine s _ (List.getElem_mem hk)).2.2
    rw [wB, wdsB_bts, wgetD_bts _ _ hk, ByteArray.size_append, ByteArray.size_append]
    rw [wdsB_bts] at h1
    have e1 : (ByteArray.mk (wdsL s)[k].toArray).size = (wdsL s)[k].length := by show (wdsL s)[k].toArray.size = _; simp
    have e2 : (ByteArray.mk #[32]).size = 1 := rfl
    omega
theorem word_size (s : ByteArray) (hs : s.size ≤ 12) (k : Nat) (h : k < (Word.wdsB s).length) : ((Word.wdsB s)[k]).size ≤ 12 := by
  have hk : k < (wdsL s).length := by rw [wdsB_bts, Word.bts_len] at h; omega
  have hf := (wdsL_fine s _ (List.getElem_mem hk)).2.2
  have e : (Word.wdsB s)[k] = ⟨(wdsL s)[k].toArray⟩ := by simp [wdsB_bts, Word.bts]
  rw [e]
  show (wdsL s)[k].toArray.size ≤ 12
  simp; omega
theorem line_size (s : ByteArray) (k : Nat) (h : k < (Line.lnsB s).length) : ((Line.lnsB s)[k]).size ≤ s.size := by
  have hk : k < (lnsL s).length := by rw [lnsL_len]; exact h
  have h1 := jB_size s (k + 1) (by omega)
  rw [jB] at h1
  have e : (Line.lnsB s).getD k ByteArray.empty = (Line.lnsB s)[k] := by rw [List.getD_eq_getElem?_getD, List.getElem?_eq_getElem h]; rfl
  rw [e, ByteArray.size_append] at h1
  omega
end Go.Proofs.YtkpmbpfdlcdeaaaDoor.Ll
