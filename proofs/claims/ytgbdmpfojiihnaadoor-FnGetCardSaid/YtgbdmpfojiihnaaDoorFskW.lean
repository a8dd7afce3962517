/-
  The walk of the specification's FrameOk.
-/
import Derived.Test.YtgbdmpfojiihnaaDoorFokW
namespace Go.Proofs.YtgbdmpfojiihnaaDoor.Frm
open Go.RowKit
set_option linter.unusedVariables false

theorem low_drewN {B : Nat} {a w : World} (h : Below B a w) (n : Nat) : Below B a (w.drewN n) := h.trans ⟨rfl, rfl, rfl, Nat.le_refl _, fun _ _ => rfl⟩

set_option maxRecDepth 100000 in
set_option maxHeartbeats 1000000 in
theorem specOk_de (k d e s i : Int) (b : ByteArray) (w : World) (hb : b.size ≤ maxLen) (h : ¬ (1 ≤ d ∧ d ≤ 6 ∧ 0 ≤ e ∧ e ≤ 60000)) :
    Calls Tryd.prog 13 #[.agg #[.int .i64 k, .int .i64 d, .int .i64 e, .int .i64 s, .int .i64 i, .string b]] w fun en w' => en = .returned (.bool (fokB k d e s i b.size)) ∧ Below w.heap.size w w' := by
  unfold maxLen at hb
  go_enter Tryd.func13, Tryd.ntmps13
  rcases zero_or i with rfl | ⟨hi1, hi⟩
  all_goals
    rcases emp_or b with ⟨h0, hem⟩ | ⟨h0, hem⟩
  all_goals
    go_wp2_with fail
    go_quiet (first | exact (in_any _ _ _ _).mono fun _ _ h => ⟨h.1, _, h.2.symm⟩)
    go_wp2
    all_goals
      go_ret
      refine ⟨?_, ?_⟩
      · unfold fokB FOk
        first
          | exact bool_no (by omega)
          | exact bool_yes (by omega)
          | exact bool_iff (by omega)
      · repeat' first | exact Below.refl _ _ | (refine Below.alloc ?_ (by simp; try omega) _) | refine low_drewN ?_ _

set_option maxRecDepth 100000 in
set_option maxHeartbeats 1000000 in
theorem specOk_1 (d e s i : Int) (b : ByteArray) (w : World) (hb : b.size ≤ maxLen) (hd1 : 1 ≤ d) (hd6 : d ≤ 6) (he0 : 0 ≤ e) (he1 : e ≤ 60000) :
    Calls Tryd.prog 13 #[.agg #[.int .i64 1, .int .i64 d, .int .i64 e, .int .i64 s, .int .i64 i, .string b]] w fun en w' => en = .returned (.bool (fokB 1 d e s i b.size)) ∧ Below w.heap.size w w' := by
  unfold maxLen at hb
  go_enter Tryd.func13, Tryd.ntmps13
  rcases zero_or i with rfl | ⟨hi1, hi⟩
  all_goals
    rcases emp_or b with ⟨h0, hem⟩ | ⟨h0, hem⟩
  all_goals
    go_wp2_with fail
    go_quiet (first | exact (in_any _ _ _ _).mono fun _ _ h => ⟨h.1, _, h.2.symm⟩)
    go_wp2
    all_goals
      go_ret
      refine ⟨?_, ?_⟩
      · unfold fokB FOk
        first
          | exact bool_no (by omega)
          | exact bool_yes (by omega)
          | exact bool_iff (by omega)
      · repeat' first | exact Below.refl _ _ | (refine Below.alloc ?_ (by simp; try omega) _) | refine low_drewN ?_ _

set_option maxRecDepth 100000 in
set_option maxHeartbeats 1000000 in
theorem specOk_2 (d e s i : Int) (b : ByteArray) (w : World) (hb : b.size ≤ maxLen) (hd1 : 1 ≤ d) (hd6 : d ≤ 6) (he0 : 0 ≤ e) (he1 : e ≤ 60000) :
    Calls Tryd.prog 13 #[.agg #[.int .i64 2, .int .i64 d, .int .i64 e, .int .i64 s, .int .i64 i, .string b]] w fun en w' => en = .returned (.bool (fokB 2 d e s i b.size)) ∧ Below w.heap.size w w' := by
  unfold maxLen at hb
  go_enter Tryd.func13, Tryd.ntmps13
  rcases zero_or i with rfl | ⟨hi1, hi⟩
  all_goals
    rcases emp_or b with ⟨h0, hem⟩ | ⟨h0, hem⟩
  all_goals
    go_wp2_with fail
    go_quiet (first | exact (in_any _ _ _ _).mono fun _ _ h => ⟨h.1, _, h.2.symm⟩)
    go_wp2
    all_goals
      go_ret
      refine ⟨?_, ?_⟩
      · unfold fokB FOk
        first
          | exact bool_no (by omega)
          | exact bool_yes (by omega)
          | exact bool_iff (by omega)
      · repeat' first | exact Below.refl _ _ | (refine Below.alloc ?_ (by simp; try omega) _) | refine low_drewN ?_ _

set_option maxRecDepth 100000 in
set_option maxHeartbeats 1000000 in
theorem specOk_3 (d e s i : Int) (b : ByteArray) (w : World) (hb : b.size ≤ maxLen) (hd1 : 1 ≤ d) (hd6 : d ≤ 6) (he0 : 0 ≤ e) (he1 : e ≤ 60000) :
    Calls Tryd.prog 13 #[.agg #[.int .i64 3, .int .i64 d, .int .i64 e, .int .i64 s, .int .i64 i, .string b]] w fun en w' => en = .returned (.bool (fokB 3 d e s i b.size)) ∧ Below w.heap.size w w' := by
  unfold maxLen at hb
  go_enter Tryd.func13, Tryd.ntmps13
  rcases zero_or i with rfl | ⟨hi1, hi⟩
  all_goals
    rcases emp_or b with ⟨h0, hem⟩ | ⟨h0, hem⟩
  all_goals
    rcases zero_or s with rfl | ⟨hs1, hs⟩
  all_goals
    go_wp2_with fail
    go_quiet (first | exact (in_any _ _ _ _).mono fun _ _ h => ⟨h.1, _, h.2.symm⟩)
    go_wp2
    all_goals
      go_ret
      refine ⟨?_, ?_⟩
      · unfold fokB FOk
        first
          | exact bool_no (by omega)
          | exact bool_yes (by omega)
          | exact bool_iff (by omega)
      · repeat' first | exact Below.refl _ _ | (refine Below.alloc ?_ (by simp; try omega) _) | refine low_drewN ?_ _

set_option maxRecDepth 100000 in
set_option maxHeartbeats 1000000 in
theorem specOk_4 (d e s i : Int) (b : ByteArray) (w : World) (hb : b.size ≤ maxLen) (hd1 : 1 ≤ d) (hd6 : d ≤ 6) (he0 : 0 ≤ e) (he1 : e ≤ 60000) :
    Calls Tryd.prog 13 #[.agg #[.int .i64 4, .int .i64 d, .int .i64 e, .int .i64 s, .int .i64 i, .string b]] w fun en w' => en = .returned (.bool (fokB 4 d e s i b.size)) ∧ Below w.heap.size w w' := by
  unfold maxLen at hb
  go_enter Tryd.func13, Tryd.ntmps13
  rcases zero_or i with rfl | ⟨hi1, hi⟩
  all_goals
    rcases emp_or b with ⟨h0, hem⟩ | ⟨h0, hem⟩
  all_goals
    go_wp2_with fail
    go_quiet (first | exact (in_any _ _ _ _).mono fun _ _ h => ⟨h.1, _, h.2.symm⟩)
    go_wp2
    all_goals
      go_ret
      refine ⟨?_, ?_⟩
      · unfold fokB FOk
        first
          | exact bool_no (by omega)
          | exact bool_yes (by omega)
          | exact bool_iff (by omega)
      · repeat' first | exact Below.refl _ _ | (refine Below.alloc ?_ (by simp; try omega) _) | refine low_drewN ?_ _

set_option maxRecDepth 100000 in
set_option maxHeartbeats 1000000 in
theorem specOk_no (k d e s i : Int) (b : ByteArray) (w : World) (hb : b.size ≤ maxLen) (hd1 : 1 ≤ d) (hd6 : d ≤ 6) (he0 : 0 ≤ e) (he1 : e ≤ 60000) (hk1 : (k == 1) = false) (hk2 : (k == 2) = false) (hk3 : (k == 3) = false) (hk4 : (k == 4) = false) (hk : k < 1 ∨ 4 < k) :
    Calls Tryd.prog 13 #[.agg #[.int .i64 k, .int .i64 d, .int .i64 e, .int .i64 s, .int .i64 i, .string b]] w fun en w' => en = .returned (.bool (fokB k d e s i b.size)) ∧ Below w.heap.size w w' := by
  unfold maxLen at hb
  go_enter Tryd.func13, Tryd.ntmps13
  rcases zero_or i with rfl | ⟨hi1, hi⟩
  all_goals
    rcases emp_or b with ⟨h0, hem⟩ | ⟨h0, hem⟩
  all_goals
    go_wp2_with fail
    go_quiet (first | exact (in_any _ _ _ _).mono fun _ _ h => ⟨h.1, _, h.2.symm⟩)
    go_wp2
    all_goals
      go_ret
      refine ⟨?_, ?_⟩
      · unfold fokB FOk
        first
          | exact bool_no (by omega)
          | exact bool_yes (by omega)
          | exact bool_iff (by omega)
      · repeat' first | exact Below.refl _ _ | (refine Below.alloc ?_ (by simp; try omega) _) | refine low_drewN ?_ _

theorem specOk_any (k d e s i : Int) (b : ByteArray) (w : World) (hb : b.size ≤ maxLen) :
    Calls Tryd.prog 13 #[.agg #[.int .i64 k, .int .i64 d, .int .i64 e, .int .i64 s, .int .i64 i, .string b]] w fun en w' => en = .returned (.bool (fokB k d e s i b.size)) ∧ Below w.heap.size w w' := by
  by_cases h : 1 ≤ d ∧ d ≤ 6 ∧ 0 ≤ e ∧ e ≤ 60000
  · obtain ⟨h1, h2, h3, h4⟩ := h
    rcases kinds k with rfl | rfl | rfl | rfl | ⟨hk1, hk2, hk3, hk4, hk⟩
    · exact specOk_1 d e s i b w hb h1 h2 h3 h4
    · exact specOk_2 d e s i b w hb h1 h2 h3 h4
    · exact specOk_3 d e s i b w hb h1 h2 h3 h4
    · exact specOk_4 d e s i b w hb h1 h2 h3 h4
    · exact specOk_no k d e s i b w hb h1 h2 h3 h4 hk1 hk2 hk3 hk4 hk
  · exact specOk_de k d e s i b w hb h
end Go.Proofs.YtgbdmpfojiihnaaDoor.Frm
