/-
  The walks of FrameOk, of the program and of the specification, and of the law FnExactFrameOk.
-/
import Derived.Test.YtgbdmpfojiihnaaDoorProg
import Derived.WalkKit
import Derived.WalkSpells
import Derived.WalkLawsBesides
import Derived.Lib.Hide
import Derived.Deep.QuietTactic
import Derived.BigQuiet
import Derived.Below
import Derived.IntWalk
import Derived.Lib.Strings
import Derived.Test.YtgbdmpfojiihnaaDoorFrmA
namespace Go.Proofs.YtgbdmpfojiihnaaDoor.Frm
open Go.RowKit
set_option linter.unusedVariables false

theorem bool_iff {p q : Prop} [Decidable p] [Decidable q] (h : p ↔ q) : Ending.returned (.bool (decide p)) = Ending.returned (.bool (decide q)) := by rw [decide_eq_decide.2 h]
theorem bool_no {p : Prop} [Decidable p] (h : ¬ p) : Ending.returned (.bool false) = Ending.returned (.bool (decide p)) := by rw [decide_eq_false h]
theorem bool_yes {p : Prop} [Decidable p] (h : p) : Ending.returned (.bool true) = Ending.returned (.bool (decide p)) := by rw [decide_eq_true h]
theorem bytes_len (s : ByteArray) : s.data.toList.length = s.size := by rw [Array.length_toList]; rfl
theorem ne_empty (s : ByteArray) (h : 0 < s.size) : s.toList.isEmpty = false := by
  rw [Lib.toList_data]
  cases hl : s.data.toList with
  | nil => have := bytes_len s; rw [hl] at this; simp at this; omega
  | cons _ _ => rfl
theorem is_empty (s : ByteArray) (h : s.size = 0) : s.toList.isEmpty = true := by
  rw [Lib.toList_data]
  have := bytes_len s
  cases hl : s.data.toList with
  | nil => rfl
  | cons _ _ => rw [hl] at this; simp at this; omega

theorem in_any (x a b : Int) (w : World) :
    Calls Tryd.prog 35 #[.int .i64 x, .int .i64 a, .int .i64 b] w fun e w' => e = .returned (.bool (decide (a ≤ x ∧ x ≤ b))) ∧ w = w' := by
  go_enter Tryd.func35, Tryd.ntmps35
  go_wp2
  all_goals
    go_ret
    refine ⟨?_, rfl⟩
    first
      | exact bool_iff (by omega)
      | exact bool_no (by omega)
      | (simp; intro; omega)

theorem implSeq_any (k d e s i : Int) (b : ByteArray) (w : World) :
    Calls Tryd.prog 36 #[.agg #[.int .i64 k, .int .i64 d, .int .i64 e, .int .i64 s, .int .i64 i, .string b]] w fun en w' => en = .returned (.bool (decide (1 ≤ s ∧ s ≤ 60000))) ∧ Below w.heap.size w w' := by
  go_enter Tryd.func36, Tryd.ntmps36
  go_wp2
  all_goals
    go_ret
    refine ⟨?_, (Below.refl _ _).alloc (Nat.le_refl _) _⟩
    first
      | exact bool_iff (by omega)
      | exact bool_no (by omega)
      | (simp; intro; omega)

theorem kinds (k : Int) : k = 1 ∨ k = 2 ∨ k = 3 ∨ k = 4 ∨ ((k == 1) = false ∧ (k == 2) = false ∧ (k == 3) = false ∧ (k == 4) = false ∧ (k < 1 ∨ 4 < k)) := by
  rcases Int.lt_or_le k 1 with h | h
  · exact .inr (.inr (.inr (.inr ⟨beq_eq_false_iff_ne.2 (by omega), beq_eq_false_iff_ne.2 (by omega), beq_eq_false_iff_ne.2 (by omega), beq_eq_false_iff_ne.2 (by omega), .inl h⟩)))
  · rcases Int.lt_or_le 4 k with h4 | h4
    · exact .inr (.inr (.inr (.inr ⟨beq_eq_false_iff_ne.2 (by omega), beq_eq_false_iff_ne.2 (by omega), beq_eq_false_iff_ne.2 (by omega), beq_eq_false_iff_ne.2 (by omega), .inr h4⟩)))
    · omega
theorem zero_or (i : Int) : i = 0 ∨ ((i == 0) = false ∧ (i < 0 ∨ 0 < i)) := by
  by_cases h : i = 0
  · exact .inl h
  · exact .inr ⟨beq_eq_false_iff_ne.2 h, by omega⟩
theorem emp_or (b : ByteArray) : (b.size = 0 ∧ b.toList.isEmpty = true) ∨ (0 < b.size ∧ b.toList.isEmpty = false) := by
  rcases Nat.eq_zero_or_pos b.size with h0 | h0
  · exact .inl ⟨h0, is_empty b h0⟩
  · exact .inr ⟨h0, ne_empty b h0⟩

set_option maxRecDepth 100000 in
set_option maxHeartbeats 1000000 in
theorem implOk_de (k d e s i : Int) (b : ByteArray) (w : World) (hb : b.size ≤ maxLen) (h : ¬ (1 ≤ d ∧ d ≤ 6 ∧ 0 ≤ e ∧ e ≤ 60000)) :
    Calls Tryd.prog 14 #[.agg #[.int .i64 k, .int .i64 d, .int .i64 e, .int .i64 s, .int .i64 i, .string b]] w fun en w' => en = .returned (.bool (fokB k d e s i b.size)) ∧ Below w.heap.size w w' := by
  unfold maxLen at hb
  go_enter Tryd.func14, Tryd.ntmps14
  rcases (show d < 1 ∨ 6 < d ∨ e < 0 ∨ 60000 < e by omega) with hx | hx | hx | hx
  all_goals
    clear h
  all_goals
    go_wp2
    all_goals
      go_ret
      refine ⟨?_, ?_⟩
      · unfold fokB FOk
        first
          | exact bool_no (by omega)
          | exact bool_yes (by omega)
          | exact bool_iff (by omega)
      · repeat' first | exact Below.refl _ _ | (refine Below.alloc ?_ (by simp; try omega) _)

set_option maxRecDepth 100000 in
set_option maxHeartbeats 1000000 in
theorem implOk_1 (d e s i : Int) (b : ByteArray) (w : World) (hb : b.size ≤ maxLen) (hd1 : 1 ≤ d) (hd6 : d ≤ 6) (he0 : 0 ≤ e) (he1 : e ≤ 60000) :
    Calls Tryd.prog 14 #[.agg #[.int .i64 1, .int .i64 d, .int .i64 e, .int .i64 s, .int .i64 i, .string b]] w fun en w' => en = .returned (.bool (fokB 1 d e s i b.size)) ∧ Below w.heap.size w w' := by
  unfold maxLen at hb
  go_enter Tryd.func14, Tryd.ntmps14
  all_goals
    go_wp2
    all_goals
      go_ret
      refine ⟨?_, ?_⟩
      · unfold fokB FOk
        first
          | exact bool_no (by omega)
          | exact bool_yes (by omega)
          | exact bool_iff (by omega)
      · repeat' first | exact Below.refl _ _ | (refine Below.alloc ?_ (by simp; try omega) _)

set_option maxRecDepth 100000 in
set_option maxHeartbeats 1000000 in
theorem implOk_2 (d e s i : Int) (b : ByteArray) (w : World) (hb : b.size ≤ maxLen) (hd1 : 1 ≤ d) (hd6 : d ≤ 6) (he0 : 0 ≤ e) (he1 : e ≤ 60000) :
    Calls Tryd.prog 14 #[.agg #[.int .i64 2, .int .i64 d, .int .i64 e, .int .i64 s, .int .i64 i, .string b]] w fun en w' => en = .returned (.bool (fokB 2 d e s i b.size)) ∧ Below w.heap.size w w' := by
  unfold maxLen at hb
  go_enter Tryd.func14, Tryd.ntmps14
  rcases zero_or i with rfl | ⟨hi1, hi⟩
  all_goals
    rcases emp_or b with ⟨h0, hem⟩ | ⟨h0, hem⟩
  all_goals
    go_wp2
    all_goals
      go_ret
      refine ⟨?_, ?_⟩
      · unfold fokB FOk
        first
          | exact bool_no (by omega)
          | exact bool_yes (by omega)
          | exact bool_iff (by omega)
      · repeat' first | exact Below.refl _ _ | (refine Below.alloc ?_ (by simp; try omega) _)

set_option maxRecDepth 100000 in
set_option maxHeartbeats 1000000 in
theorem implOk_3 (d e s i : Int) (b : ByteArray) (w : World) (hb : b.size ≤ maxLen) (hd1 : 1 ≤ d) (hd6 : d ≤ 6) (he0 : 0 ≤ e) (he1 : e ≤ 60000) :
    Calls Tryd.prog 14 #[.agg #[.int .i64 3, .int .i64 d, .int .i64 e, .int .i64 s, .int .i64 i, .string b]] w fun en w' => en = .returned (.bool (fokB 3 d e s i b.size)) ∧ Below w.heap.size w w' := by
  unfold maxLen at hb
  go_enter Tryd.func14, Tryd.ntmps14
  rcases zero_or i with rfl | ⟨hi1, hi⟩
  all_goals
    rcases emp_or b with ⟨h0, hem⟩ | ⟨h0, hem⟩
  all_goals
    rcases zero_or s with rfl | ⟨hs1, hs⟩
  all_goals
    go_wp2
    all_goals
      go_ret
      refine ⟨?_, ?_⟩
      · unfold fokB FOk
        first
          | exact bool_no (by omega)
          | exact bool_yes (by omega)
          | exact bool_iff (by omega)
      · repeat' first | exact Below.refl _ _ | (refine Below.alloc ?_ (by simp; try omega) _)

set_option maxRecDepth 100000 in
set_option maxHeartbeats 1000000 in
theorem implOk_4 (d e s i : Int) (b : ByteArray) (w : World) (hb : b.size ≤ maxLen) (hd1 : 1 ≤ d) (hd6 : d ≤ 6) (he0 : 0 ≤ e) (he1 : e ≤ 60000) :
    Calls Tryd.prog 14 #[.agg #[.int .i64 4, .int .i64 d, .int .i64 e, .int .i64 s, .int .i64 i, .string b]] w fun en w' => en = .returned (.bool (fokB 4 d e s i b.size)) ∧ Below w.heap.size w w' := by
  unfold maxLen at hb
  go_enter Tryd.func14, Tryd.ntmps14
  rcases zero_or i with rfl | ⟨hi1, hi⟩
  all_goals
    rcases emp_or b with ⟨h0, hem⟩ | ⟨h0, hem⟩
  all_goals
    go_wp2
    all_goals
      go_ret
      refine ⟨?_, ?_⟩
      · unfold fokB FOk
        first
          | exact bool_no (by omega)
          | exact bool_yes (by omega)
          | exact bool_iff (by omega)
      · repeat' first | exact Below.refl _ _ | (refine Below.alloc ?_ (by simp; try omega) _)

set_option maxRecDepth 100000 in
set_option maxHeartbeats 1000000 in
theorem implOk_no (k d e s i : Int) (b : ByteArray) (w : World) (hb : b.size ≤ maxLen) (hd1 : 1 ≤ d) (hd6 : d ≤ 6) (he0 : 0 ≤ e) (he1 : e ≤ 60000) (hk1 : (k == 1) = false) (hk2 : (k == 2) = false) (hk3 : (k == 3) = false) (hk4 : (k == 4) = false) (hk : k < 1 ∨ 4 < k) :
    Calls Tryd.prog 14 #[.agg #[.int .i64 k, .int .i64 d, .int .i64 e, .int .i64 s, .int .i64 i, .string b]] w fun en w' => en = .returned (.bool (fokB k d e s i b.size)) ∧ Below w.heap.size w w' := by
  unfold maxLen at hb
  go_enter Tryd.func14, Tryd.ntmps14
  all_goals
    go_wp2
    all_goals
      go_ret
      refine ⟨?_, ?_⟩
      · unfold fokB FOk
        first
          | exact bool_no (by omega)
          | exact bool_yes (by omega)
          | exact bool_iff (by omega)
      · repeat' first | exact Below.refl _ _ | (refine Below.alloc ?_ (by simp; try omega) _)

theorem implOk_any (k d e s i : Int) (b : ByteArray) (w : World) (hb : b.size ≤ maxLen) :
    Calls Tryd.prog 14 #[.agg #[.int .i64 k, .int .i64 d, .int .i64 e, .int .i64 s, .int .i64 i, .string b]] w fun en w' => en = .returned (.bool (fokB k d e s i b.size)) ∧ Below w.heap.size w w' := by
  by_cases h : 1 ≤ d ∧ d ≤ 6 ∧ 0 ≤ e ∧ e ≤ 60000
  · obtain ⟨h1, h2, h3, h4⟩ := h
    rcases kinds k with rfl | rfl | rfl | rfl | ⟨hk1, hk2, hk3, hk4, hk⟩
    · exact implOk_1 d e s i b w hb h1 h2 h3 h4
    · exact implOk_2 d e s i b w hb h1 h2 h3 h4
    · exact implOk_3 d e s i b w hb h1 h2 h3 h4
    · exact implOk_4 d e s i b w hb h1 h2 h3 h4
    · exact implOk_no k d e s i b w hb h1 h2 h3 h4 hk1 hk2 hk3 hk4 hk
  · exact implOk_de k d e s i b w hb h

end Go.Proofs.YtgbdmpfojiihnaaDoor.Frm
