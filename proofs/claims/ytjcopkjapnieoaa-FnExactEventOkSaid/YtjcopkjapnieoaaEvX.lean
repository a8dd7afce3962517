/-
  How the exact laws take a message: its size, its copy, two messages compared; the walks of the laws FnExactEventOk, FnExactKnocked and FnExactBack.
-/
import Derived.Test.YtjcopkjapnieoaaEvW
namespace Go.Proofs.Ytjcopkjapnieoaa.Evt
open Go.RowKit
set_option linter.unusedVariables false

set_option maxRecDepth 100000 in
theorem toEvent_any (i d c : Int) (b : ByteArray) (a t r n s : Int) (w : World) :
    Calls Try.prog 26 #[.agg #[.int .i64 i, .int .i64 d, .int .i64 c, .string b, .int .i64 a, .int .i64 t, .int .i64 r, .int .i64 n, .int .i64 s]] w fun e w' => e = .returned (.agg #[.int .i64 i, .int .i64 d, .int .i64 c, .string b, .int .i64 a, .int .i64 t, .int .i64 r, .int .i64 n, .int .i64 s]) ∧ Below w.heap.size w w' := by
  go_enter Try.func26, Try.ntmps26
  go_wp2
  refine bodyPost_ret (v := .agg #[.int .i64 i, .int .i64 d, .int .i64 c, .string b, .int .i64 a, .int .i64 t, .int .i64 r, .int .i64 n, .int .i64 s]) (by simp [results, Try.results26, go_sem]) rfl ⟨rfl, ?_⟩
  repeat' first | exact Below.refl _ _ | (refine Below.setCell ?_ (by simp; try omega) _) | (refine Below.alloc ?_ (by simp; try omega) _) | refine Below.drew ?_

theorem szEvent_big (i d c : Int) (b : ByteArray) (a t r n s : Int) (w : World) (hb : b.size ≤ maxLen) (h : 1048576 < b.size) :
    Calls Try.prog 25 #[.agg #[.int .i64 i, .int .i64 d, .int .i64 c, .string b, .int .i64 a, .int .i64 t, .int .i64 r, .int .i64 n, .int .i64 s], .int .i64 1048576] w fun en w' => en = .returned (.int .i64 (-1)) ∧ Below w.heap.size w w' := by
  unfold maxLen at hb
  have hsub : IntKind.i64.wrap (1048576 - (b.size : Int)) = 1048576 - (b.size : Int) := IntWalk.i64_in _ (by omega)
  have hsub2 : wrap64 (1048576 - (b.size : Int)) = 1048576 - (b.size : Int) := by unfold wrap64; omega
  have hlt : 1048576 - (b.size : Int) < 0 := by omega
  go_enter Try.func25, Try.ntmps25
  go_wp2
  go_ret
  exact ⟨rfl, bOne _ _⟩

theorem szEvent_ok (i d c : Int) (b : ByteArray) (a t r n s : Int) (w : World) (hb : b.size ≤ maxLen) (h : b.size ≤ 1048576) :
    Calls Try.prog 25 #[.agg #[.int .i64 i, .int .i64 d, .int .i64 c, .string b, .int .i64 a, .int .i64 t, .int .i64 r, .int .i64 n, .int .i64 s], .int .i64 1048576] w fun en w' => en = .returned (.int .i64 (1048576 - b.size)) ∧ Below w.heap.size w w' := by
  unfold maxLen at hb
  have hsub : IntKind.i64.wrap (1048576 - (b.size : Int)) = 1048576 - (b.size : Int) := IntWalk.i64_in _ (by omega)
  have hsub2 : wrap64 (1048576 - (b.size : Int)) = 1048576 - (b.size : Int) := by unfold wrap64; omega
  have hlt : ¬ (1048576 - (b.size : Int) < 0) := by omega
  have hge : 0 ≤ 1048576 - (b.size : Int) := by omega
  go_enter Try.func25, Try.ntmps25
  go_wp2
  go_ret
  exact ⟨rfl, bOne _ _⟩

set_option maxRecDepth 100000 in
theorem eqEvent_same (i d c : Int) (b : ByteArray) (a t r n s : Int) (w : World) :
    Calls Try.prog 27 #[.agg #[.int .i64 i, .int .i64 d, .int .i64 c, .string b, .int .i64 a, .int .i64 t, .int .i64 r, .int .i64 n, .int .i64 s], .agg #[.int .i64 i, .int .i64 d, .int .i64 c, .string b, .int .i64 a, .int .i64 t, .int .i64 r, .int .i64 n, .int .i64 s]] w fun en w' => en = .returned (.bool true) ∧ Below w.heap.size w w' := by
  go_enter Try.func27, Try.ntmps27
  go_wp2
  go_ret
  exact ⟨rfl, ((Below.refl _ _).alloc (Nat.le_refl _) _).alloc (by simp) _⟩

/-- the law's own walk -/
theorem exactOk_walk (w : World) (i d c : Int) (b : ByteArray) (a t r n s : Int) (hb : b.size ≤ maxLen) :
    Calls Try.prog 6 #[.agg #[.int .i64 i, .int .i64 d, .int .i64 c, .string b, .int .i64 a, .int .i64 t, .int .i64 r, .int .i64 n, .int .i64 s]] w fun en w' => en = .returned (.bool true) ∧ Below w.heap.size w w' := by
  have HB0 := Lib.hid (B9.new w i d c b a t r n s 36)
  go_enter Try.func6, Try.ntmps6
  by_cases h : 1048576 < b.size
  · go_wp2_with fail
    refine (szEvent_big i d c b a t r n s _ hb h).mono ?_
    rintro en w1 ⟨rfl, hb1⟩
    go_wp2_with fail
    go_ret
    exact ⟨rfl, bAfter (bOne w _) hb1 (by simp)⟩
  go_wp2_with fail
  refine (szEvent_ok i d c b a t r n s _ hb (by omega)).mono ?_
  rintro en w1 ⟨rfl, hb1⟩
  have hng : ¬ ((1048576 : Int) - (b.size : Int) < 0) := by omega
  have hge : 0 ≤ (1048576 : Int) - (b.size : Int) := by omega
  have HL1 := Lib.hid (bAfter (bOne w _) hb1 (by simp))
  have HB1 := Lib.hid (HB0.out.below hb1)
  clear hb1 HB0
  obtain ⟨c0, c1, c2, c3, c4, c5, c6, c7, c8, hlt⟩ := HB1.out
  go_wp2_with fail
  refine (toEvent_any i d c b a t r n s _).mono ?_
  rintro en w2 ⟨rfl, hb2⟩
  go_wp2_with fail
  refine (specOk_any i d c b a t r n s _ hb).mono ?_
  rintro en w3 ⟨rfl, hb3⟩
  have hb23 := hb2.trans (hb3.mono hb2.size)
  have HL3 := Lib.hid (bAfter HL1.out hb23 HL1.out.size)
  have HB3 := Lib.hid (HB1.out.below hb23)
  clear hb23 hb2 hb3 HL1 HB1 c0 c1 c2 c3 c4 c5 c6 c7 c8 hlt
  obtain ⟨c0, c1, c2, c3, c4, c5, c6, c7, c8, hlt⟩ := HB3.out
  go_wp2_with fail
  refine (toEvent_any i d c b a t r n s _).mono ?_
  rintro en w4 ⟨rfl, hb4⟩
  go_wp2_with fail
  refine (implOk_any i d c b a t r n s _ hb).mono ?_
  rintro en w5 ⟨rfl, hb5⟩
  have hb45 := hb4.trans (hb5.mono hb4.size)
  have HL5 := Lib.hid (bAfter HL3.out hb45 HL3.out.size)
  clear hb45 hb4 hb5
  obtain ⟨x, hx⟩ : ∃ x, x = eokB i d c b.size a t r n s := ⟨_, rfl⟩
  rw [← hx]
  clear hx
  cases x
  all_goals
    go_wp2_with fail
    go_ret
    exact ⟨rfl, HL5.out⟩

/-- the law's own walk -/
theorem exactKnocked_walk (w : World) (i d c : Int) (b : ByteArray) (a t r n s : Int) (now wt : Int) (hr : (Lit.int .i64 r).wf = true) (hb : b.size ≤ maxLen) :
    Calls Try.prog 7 #[.agg #[.int .i64 i, .int .i64 d, .int .i64 c, .string b, .int .i64 a, .int .i64 t, .int .i64 r, .int .i64 n, .int .i64 s], .int .i64 now, .int .i64 wt] w fun en w' => en = .returned (.bool true) ∧ Below w.heap.size w w' := by
  have HB0 := Lib.hid (B9.new w i d c b a t r n s 36)
  go_enter Try.func7, Try.ntmps7
  by_cases h : 1048576 < b.size
  · go_wp2_with fail
    refine (szEvent_big i d c b a t r n s _ hb h).mono ?_
    rintro en w1 ⟨rfl, hb1⟩
    go_wp2_with fail
    go_ret
    exact ⟨rfl, bAfter (bOne w _) hb1 (by simp)⟩
  go_wp2_with fail
  refine (szEvent_ok i d c b a t r n s _ hb (by omega)).mono ?_
  rintro en w1 ⟨rfl, hb1⟩
  have hng : ¬ ((1048576 : Int) - (b.size : Int) < 0) := by omega
  have hge : 0 ≤ (1048576 : Int) - (b.size : Int) := by omega
  have HL1 := Lib.hid (bAfter (bOne w _) hb1 (by simp))
  have HB1 := Lib.hid (HB0.out.below hb1)
  clear hb1 HB0
  obtain ⟨c0, c1, c2, c3, c4, c5, c6, c7, c8, hlt⟩ := HB1.out
  go_wp2_with fail
  refine (toEvent_any i d c b a t r n s _).mono ?_
  rintro en w2 ⟨rfl, hb2⟩
  go_wp2_with fail
  refine (specKnocked_any i d c b a t r n s now wt hr _).mono ?_
  rintro en w3 ⟨rfl, hb3⟩
  have hb23 := hb2.trans (hb3.mono hb2.size)
  have HL3 := Lib.hid ((bAfter HL1.out hb23 HL1.out.size).trans ((bOne w3 (.cells #[.int .i64 i, .int .i64 d, .int .i64 c, .string b, .int .i64 a, .int .i64 t, .int .i64 (upT r), .int .i64 (wrap64 (now + wt)), .int .i64 1] 25)).mono (bAfter HL1.out hb23 HL1.out.size).size))
  have HB3 := Lib.hid ((HB1.out.below hb23).below (bOne w3 (.cells #[.int .i64 i, .int .i64 d, .int .i64 c, .string b, .int .i64 a, .int .i64 t, .int .i64 (upT r), .int .i64 (wrap64 (now + wt)), .int .i64 1] 25)))
  have HN3 := Lib.hid (B9.new w3 i d c b a t (upT r) (wrap64 (now + wt)) 1 25)
  clear hb23 hb2 hb3 HL1 HB1 c0 c1 c2 c3 c4 c5 c6 c7 c8 hlt
  obtain ⟨c0, c1, c2, c3, c4, c5, c6, c7, c8, hlt⟩ := HB3.out
  go_wp2_with fail
  refine (toEvent_any i d c b a t r n s _).mono ?_
  rintro en w4 ⟨rfl, hb4⟩
  go_wp2_with fail
  refine (knocked_any i d c b a t r n s now wt hr _).mono ?_
  rintro en w5 ⟨rfl, hb5⟩
  have hb45 := hb4.trans (hb5.mono hb4.size)
  have HL5 := Lib.hid (((HL3.out).trans (hb45.mono HL3.out.size)).trans ((bOne w5 (.cells #[.int .i64 i, .int .i64 d, .int .i64 c, .string b, .int .i64 a, .int .i64 t, .int .i64 (upT r), .int .i64 (wrap64 (now + wt)), .int .i64 1] 25)).mono ((HL3.out).trans (hb45.mono HL3.out.size)).size))
  have HN5 := Lib.hid ((HN3.out.below hb45).below (bOne w5 (.cells #[.int .i64 i, .int .i64 d, .int .i64 c, .string b, .int .i64 a, .int .i64 t, .int .i64 (upT r), .int .i64 (wrap64 (now + wt)), .int .i64 1] 25)))
  have HM5 := Lib.hid (B9.new w5 i d c b a t (upT r) (wrap64 (now + wt)) 1 25)
  clear hb45 hb4 hb5 HN3 HB3 c0 c1 c2 c3 c4 c5 c6 c7 c8 hlt
  obtain ⟨c0, c1, c2, c3, c4, c5, c6, c7, c8, hlt⟩ := HN5.out
  obtain ⟨d0, d1, d2, d3, d4, d5, d6, d7, d8, hlt2⟩ := HM5.out
  go_wp2_with fail
  refine (eqEvent_same i d c b a t (upT r) (wrap64 (now + wt)) 1 _).mono ?_
  rintro en w6 ⟨rfl, hb6⟩
  go_wp2_with fail
  go_ret
  exact ⟨rfl, bAfter HL5.out hb6 HL5.out.size⟩

/-- the law's own walk -/
theorem exactBack_walk (w : World) (i d c : Int) (b : ByteArray) (a t r n s : Int) (hb : b.size ≤ maxLen) :
    Calls Try.prog 8 #[.agg #[.int .i64 i, .int .i64 d, .int .i64 c, .string b, .int .i64 a, .int .i64 t, .int .i64 r, .int .i64 n, .int .i64 s]] w fun en w' => en = .returned (.bool true) ∧ Below w.heap.size w w' := by
  have HB0 := Lib.hid (B9.new w i d c b a t r n s 36)
  go_enter Try.func8, Try.ntmps8
  by_cases h : 1048576 < b.size
  · go_wp2_with fail
    refine (szEvent_big i d c b a t r n s _ hb h).mono ?_
    rintro en w1 ⟨rfl, hb1⟩
    go_wp2_with fail
    go_ret
    exact ⟨rfl, bAfter (bOne w _) hb1 (by simp)⟩
  go_wp2_with fail
  refine (szEvent_ok i d c b a t r n s _ hb (by omega)).mono ?_
  rintro en w1 ⟨rfl, hb1⟩
  have hng : ¬ ((1048576 : Int) - (b.size : Int) < 0) := by omega
  have hge : 0 ≤ (1048576 : Int) - (b.size : Int) := by omega
  have HL1 := Lib.hid (bAfter (bOne w _) hb1 (by simp))
  have HB1 := Lib.hid (HB0.out.below hb1)
  clear hb1 HB0
  obtain ⟨c0, c1, c2, c3, c4, c5, c6, c7, c8, hlt⟩ := HB1.out
  go_wp2_with fail
  refine (toEvent_any i d c b a t r n s _).mono ?_
  rintro en w2 ⟨rfl, hb2⟩
  go_wp2_with fail
  refine (specBack_any i d c b a t r n s _).mono ?_
  rintro en w3 ⟨rfl, hb3⟩
  have hb23 := hb2.trans (hb3.mono hb2.size)
  have HL3 := Lib.hid ((bAfter HL1.out hb23 HL1.out.size).trans ((bOne w3 (.cells #[.int .i64 i, .int .i64 d, .int .i64 c, .string b, .int .i64 a, .int .i64 t, .int .i64 r, .int .i64 n, .int .i64 (bk s)] 25)).mono (bAfter HL1.out hb23 HL1.out.size).size))
  have HB3 := Lib.hid ((HB1.out.below hb23).below (bOne w3 (.cells #[.int .i64 i, .int .i64 d, .int .i64 c, .string b, .int .i64 a, .int .i64 t, .int .i64 r, .int .i64 n, .int .i64 (bk s)] 25)))
  have HN3 := Lib.hid (B9.new w3 i d c b a t r n (bk s) 25)
  clear hb23 hb2 hb3 HL1 HB1 c0 c1 c2 c3 c4 c5 c6 c7 c8 hlt
  obtain ⟨c0, c1, c2, c3, c4, c5, c6, c7, c8, hlt⟩ := HB3.out
  go_wp2_with fail
  refine (toEvent_any i d c b a t r n s _).mono ?_
  rintro en w4 ⟨rfl, hb4⟩
  go_wp2_with fail
  refine (back_any i d c b a t r n s _).mono ?_
  rintro en w5 ⟨rfl, hb5⟩
  have hb45 := hb4.trans (hb5.mono hb4.size)
  have HL5 := Lib.hid (((HL3.out).trans (hb45.mono HL3.out.size)).trans ((bOne w5 (.cells #[.int .i64 i, .int .i64 d, .int .i64 c, .string b, .int .i64 a, .int .i64 t, .int .i64 r, .int .i64 n, .int .i64 (bk s)] 25)).mono ((HL3.out).trans (hb45.mono HL3.out.size)).size))
  have HN5 := Lib.hid ((HN3.out.below hb45).below (bOne w5 (.cells #[.int .i64 i, .int .i64 d, .int .i64 c, .string b, .int .i64 a, .int .i64 t, .int .i64 r, .int .i64 n, .int .i64 (bk s)] 25)))
  have HM5 := Lib.hid (B9.new w5 i d c b a t r n (bk s) 25)
  clear hb45 hb4 hb5 HN3 HB3 c0 c1 c2 c3 c4 c5 c6 c7 c8 hlt
  obtain ⟨c0, c1, c2, c3, c4, c5, c6, c7, c8, hlt⟩ := HN5.out
  obtain ⟨d0, d1, d2, d3, d4, d5, d6, d7, d8, hlt2⟩ := HM5.out
  go_wp2_with fail
  refine (eqEvent_same i d c b a t r n (bk s) _).mono ?_
  rintro en w6 ⟨rfl, hb6⟩
  go_wp2_with fail
  go_ret
  exact ⟨rfl, bAfter HL5.out hb6 HL5.out.size⟩
end Go.Proofs.Ytjcopkjapnieoaa.Evt
