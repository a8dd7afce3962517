/-
  The walks of EventOk, Knocked and Back, of the program and of the specification.
-/
import Derived.Test.YtecfomaapomncaaEvA
namespace Go.Proofs.Ytecfomaapomncaa.Evt
open Go.RowKit
set_option linter.unusedVariables false

set_option maxRecDepth 100000 in
theorem msg_any (i d c : Int) (b : ByteArray) (a t r n s : Int) (w : World) :
    Calls Try.prog 43 #[.agg #[.int .i64 i, .int .i64 d, .int .i64 c, .string b, .int .i64 a, .int .i64 t, .int .i64 r, .int .i64 n, .int .i64 s]] w fun e w' => e = .returned (.agg #[.int .i64 a, .int .i64 t, .int .i64 n, .int .i64 s]) ∧ Below w.heap.size w w' := by
  go_enter Try.func43, Try.ntmps43
  go_wp2
  refine bodyPost_ret (v := .agg #[.int .i64 a, .int .i64 t, .int .i64 n, .int .i64 s]) (by simp [results, Try.results43, go_sem]) rfl ⟨rfl, ?_⟩
  repeat' first | exact Below.refl _ _ | (refine Below.setCell ?_ (by simp; try omega) _) | (refine Below.alloc ?_ (by simp; try omega) _) | refine Below.drew ?_

theorem right_any (a t n : Int) (w : World) :
    Calls Try.prog 96 #[.agg #[.int .i64 a, .int .i64 t, .int .i64 n]] w fun e w' => e = .returned (.bool (tokB a t n)) ∧ Below w.heap.size w w' := by
  go_enter Try.func96, Try.ntmps96
  go_wp2
  all_goals
    go_ret
    refine ⟨?_, bOne _ _⟩
    unfold tokB
    first
      | exact bool_iff (by unfold TOk; omega)
      | exact bool_no (by unfold TOk; omega)

set_option maxRecDepth 100000 in
set_option maxHeartbeats 2000000 in
theorem implOk_any (i d c : Int) (b : ByteArray) (a t r n s : Int) (w : World) (hb : b.size ≤ maxLen) :
    Calls Try.prog 72 #[.agg #[.int .i64 i, .int .i64 d, .int .i64 c, .string b, .int .i64 a, .int .i64 t, .int .i64 r, .int .i64 n, .int .i64 s]] w fun e w' => e = .returned (.bool (eokB i d c b.size a t r n s)) ∧ Below w.heap.size w w' := by
  unfold maxLen at hb
  have HB := Lib.hid (B9.new w i d c b a t r n s 65)
  have hfd : ∀ w : World, (Instr.field 69 (.agg #[.int .i64 a, .int .i64 t, .int .i64 n, .int .i64 s]) 0).run Try.prog w = .ok (.agg #[.int .i64 a, .int .i64 t, .int .i64 n]) w := fun _ => by kernel_rfl
  go_enter Try.func72, Try.ntmps72
  go_wp2_with fail
  · refine (msg_any i d c b a t r n s _).mono ?_
    rintro e w1 ⟨rfl, hb1⟩
    go_wp2_with fail
    refine (right_any a t n _).mono ?_
    rintro e w2 ⟨rfl, hb2⟩
    have HB2 := Lib.hid (bAfter (bAfter (bOne w _) hb1 (by simp)) hb2 (Nat.le_trans (by simp) hb1.size))
    clear hb1 hb2
    obtain ⟨x, hx⟩ : ∃ x, x = tokB a t n := ⟨_, rfl⟩
    rw [← hx]
    have HX := Lib.hid hx
    clear hx
    go_wp2_with fail
    go_ret
    refine ⟨?_, HB2.out⟩
    rw [HX.out]
    exact bool_iff (by unfold TOk EOk; omega)
  all_goals
    go_ret
    refine ⟨?_, bOne _ _⟩
    unfold eokB
    first
      | exact bool_iff (by unfold EOk; omega)
      | exact bool_no (by unfold EOk; omega)

theorem in_any (x lo hi : Int) (w : World) :
    Calls Try.prog 35 #[.int .i64 x, .int .i64 lo, .int .i64 hi] w fun e w' => e = .returned (.bool (inB lo hi x)) ∧ w = w' := by
  go_enter Try.func35, Try.ntmps35
  go_wp2
  all_goals
    go_ret
    refine ⟨?_, rfl⟩
    unfold inB
    first
      | exact bool_iff (by omega)
      | exact bool_no (by omega)
theorem in_yes (x lo hi : Int) (w : World) (h : lo ≤ x ∧ x ≤ hi) :
    Calls Try.prog 35 #[.int .i64 x, .int .i64 lo, .int .i64 hi] w fun e w' => e = .returned (.bool true) ∧ w = w' :=
  (in_any x lo hi w).mono fun e w' h1 => ⟨h1.1.trans (by unfold inB; rw [decide_eq_true h]), h1.2⟩
theorem in_no (x lo hi : Int) (w : World) (h : ¬ (lo ≤ x ∧ x ≤ hi)) :
    Calls Try.prog 35 #[.int .i64 x, .int .i64 lo, .int .i64 hi] w fun e w' => e = .returned (.bool false) ∧ w = w' :=
  (in_any x lo hi w).mono fun e w' h1 => ⟨h1.1.trans (by unfold inB; rw [decide_eq_false h]), h1.2⟩

set_option maxRecDepth 100000 in
set_option maxHeartbeats 2000000 in
theorem specOk_any (i d c : Int) (b : ByteArray) (a t r n s : Int) (w : World) (hb : b.size ≤ maxLen) :
    Calls Try.prog 83 #[.agg #[.int .i64 i, .int .i64 d, .int .i64 c, .string b, .int .i64 a, .int .i64 t, .int .i64 r, .int .i64 n, .int .i64 s]] w fun e w' => e = .returned (.bool (eokB i d c b.size a t r n s)) ∧ Below w.heap.size w w' := by
  unfold maxLen at hb
  by_cases h0 : 1 ≤ i ∧ i ≤ 9999
  rotate_left
  · have HN := Lib.hid (eokB_no (i := i) (d := d) (c := c) (m := b.size) (a := a) (t := t) (r := r) (n := n) (s := s) (fun h => h0 (by unfold EOk at h; omega)))
    have H0 := Lib.hid h0
    clear h0
    go_enter Try.func83, Try.ntmps83
    go_wp2_with fail
    refine (in_no i 1 9999 _ H0.out).mono ?_
    rintro e w' ⟨rfl, rfl⟩
    go_wp2_with fail
    go_ret
    exact ⟨by rw [HN.out]; rfl, bOne _ _⟩
  by_cases h1 : 1 ≤ d ∧ d ≤ 6
  rotate_left
  · have HN := Lib.hid (eokB_no (i := i) (d := d) (c := c) (m := b.size) (a := a) (t := t) (r := r) (n := n) (s := s) (fun h => h1 (by unfold EOk at h; omega)))
    have H0 := Lib.hid h0
    clear h0
    have H1 := Lib.hid h1
    clear h1
    go_enter Try.func83, Try.ntmps83
    go_wp2_with fail
    refine (in_yes i 1 9999 _ H0.out).mono ?_
    rintro e w' ⟨rfl, rfl⟩
    go_wp2_with fail
    refine (in_no d 1 6 _ H1.out).mono ?_
    rintro e w' ⟨rfl, rfl⟩
    go_wp2_with fail
    go_ret
    exact ⟨by rw [HN.out]; rfl, bOne _ _⟩
  by_cases h2 : 1 ≤ c ∧ c ≤ 9
  rotate_left
  · have HN := Lib.hid (eokB_no (i := i) (d := d) (c := c) (m := b.size) (a := a) (t := t) (r := r) (n := n) (s := s) (fun h => h2 (by unfold EOk at h; omega)))
    have H0 := Lib.hid h0
    clear h0
    have H1 := Lib.hid h1
    clear h1
    have H2 := Lib.hid h2
    clear h2
    go_enter Try.func83, Try.ntmps83
    go_wp2_with fail
    refine (in_yes i 1 9999 _ H0.out).mono ?_
    rintro e w' ⟨rfl, rfl⟩
    go_wp2_with fail
    refine (in_yes d 1 6 _ H1.out).mono ?_
    rintro e w' ⟨rfl, rfl⟩
    go_wp2_with fail
    refine (in_no c 1 9 _ H2.out).mono ?_
    rintro e w' ⟨rfl, rfl⟩
    go_wp2_with fail
    go_ret
    exact ⟨by rw [HN.out]; rfl, bOne _ _⟩
  by_cases h3 : b.size ≤ 40
  rotate_left
  · have HN := Lib.hid (eokB_no (i := i) (d := d) (c := c) (m := b.size) (a := a) (t := t) (r := r) (n := n) (s := s) (fun h => h3 (by unfold EOk at h; omega)))
    have H0 := Lib.hid h0
    clear h0
    have H1 := Lib.hid h1
    clear h1
    have H2 := Lib.hid h2
    clear h2
    have h3n : decide (b.size ≤ 40) = false := decide_eq_false h3
    have h3m : decide ((b.size : Int) ≤ 40) = false := decide_eq_false (by omega)
    have H3 := Lib.hid h3
    clear h3
    go_enter Try.func83, Try.ntmps83
    go_wp2_with fail
    refine (in_yes i 1 9999 _ H0.out).mono ?_
    rintro e w' ⟨rfl, rfl⟩
    go_wp2_with fail
    refine (in_yes d 1 6 _ H1.out).mono ?_
    rintro e w' ⟨rfl, rfl⟩
    go_wp2_with fail
    refine (in_yes c 1 9 _ H2.out).mono ?_
    rintro e w' ⟨rfl, rfl⟩
    go_wp2_with fail
    go_ret
    exact ⟨by rw [HN.out]; rfl, bOne _ _⟩
  by_cases h4 : 0 ≤ a ∧ a ≤ 1000000000
  rotate_left
  · have HN := Lib.hid (eokB_no (i := i) (d := d) (c := c) (m := b.size) (a := a) (t := t) (r := r) (n := n) (s := s) (fun h => h4 (by unfold EOk at h; omega)))
    have H0 := Lib.hid h0
    clear h0
    have H1 := Lib.hid h1
    clear h1
    have H2 := Lib.hid h2
    clear h2
    have h3m : decide ((b.size : Int) ≤ 40) = true := decide_eq_true (by omega)
    have H4 := Lib.hid h4
    clear h4
    go_enter Try.func83, Try.ntmps83
    go_wp2_with fail
    refine (in_yes i 1 9999 _ H0.out).mono ?_
    rintro e w' ⟨rfl, rfl⟩
    go_wp2_with fail
    refine (in_yes d 1 6 _ H1.out).mono ?_
    rintro e w' ⟨rfl, rfl⟩
    go_wp2_with fail
    refine (in_yes c 1 9 _ H2.out).mono ?_
    rintro e w' ⟨rfl, rfl⟩
    go_wp2_with fail
    refine (in_no a 0 1000000000 _ H4.out).mono ?_
    rintro e w' ⟨rfl, rfl⟩
    go_wp2_with fail
    go_ret
    exact ⟨by rw [HN.out]; rfl, bOne _ _⟩
  by_cases h5 : 1 ≤ t ∧ t ≤ 1000000
  rotate_left
  · have HN := Lib.hid (eokB_no (i := i) (d := d) (c := c) (m := b.size) (a := a) (t := t) (r := r) (n := n) (s := s) (fun h => h5 (by unfold EOk at h; omega)))
    have H0 := Lib.hid h0
    clear h0
    have H1 := Lib.hid h1
    clear h1
    have H2 := Lib.hid h2
    clear h2
    have h3m : decide ((b.size : Int) ≤ 40) = true := decide_eq_true (by omega)
    have H4 := Lib.hid h4
    clear h4
    have H5 := Lib.hid h5
    clear h5
    go_enter Try.func83, Try.ntmps83
    go_wp2_with fail
    refine (in_yes i 1 9999 _ H0.out).mono ?_
    rintro e w' ⟨rfl, rfl⟩
    go_wp2_with fail
    refine (in_yes d 1 6 _ H1.out).mono ?_
    rintro e w' ⟨rfl, rfl⟩
    go_wp2_with fail
    refine (in_yes c 1 9 _ H2.out).mono ?_
    rintro e w' ⟨rfl, rfl⟩
    go_wp2_with fail
    refine (in_yes a 0 1000000000 _ H4.out).mono ?_
    rintro e w' ⟨rfl, rfl⟩
    go_wp2_with fail
    refine (in_no t 1 1000000 _ H5.out).mono ?_
    rintro e w' ⟨rfl, rfl⟩
    go_wp2_with fail
    go_ret
    exact ⟨by rw [HN.out]; rfl, bOne _ _⟩
  by_cases h6 : 0 ≤ r ∧ r ≤ 100000
  rotate_left
  · have HN := Lib.hid (eokB_no (i := i) (d := d) (c := c) (m := b.size) (a := a) (t := t) (r := r) (n := n) (s := s) (fun h => h6 (by unfold EOk at h; omega)))
    have H0 := Lib.hid h0
    clear h0
    have H1 := Lib.hid h1
    clear h1
    have H2 := Lib.hid h2
    clear h2
    have h3m : decide ((b.size : Int) ≤ 40) = true := decide_eq_true (by omega)
    have H4 := Lib.hid h4
    clear h4
    have H5 := Lib.hid h5
    clear h5
    have H6 := Lib.hid h6
    clear h6
    go_enter Try.func83, Try.ntmps83
    go_wp2_with fail
    refine (in_yes i 1 9999 _ H0.out).mono ?_
    rintro e w' ⟨rfl, rfl⟩
    go_wp2_with fail
    refine (in_yes d 1 6 _ H1.out).mono ?_
    rintro e w' ⟨rfl, rfl⟩
    go_wp2_with fail
    refine (in_yes c 1 9 _ H2.out).mono ?_
    rintro e w' ⟨rfl, rfl⟩
    go_wp2_with fail
    refine (in_yes a 0 1000000000 _ H4.out).mono ?_
    rintro e w' ⟨rfl, rfl⟩
    go_wp2_with fail
    refine (in_yes t 1 1000000 _ H5.out).mono ?_
    rintro e w' ⟨rfl, rfl⟩
    go_wp2_with fail
    refine (in_no r 0 100000 _ H6.out).mono ?_
    rintro e w' ⟨rfl, rfl⟩
    go_wp2_with fail
    go_ret
    exact ⟨by rw [HN.out]; rfl, bOne _ _⟩
  by_cases h7 : 0 ≤ n ∧ n ≤ 2000000000
  rotate_left
  · have HN := Lib.hid (eokB_no (i := i) (d := d) (c := c) (m := b.size) (a := a) (t := t) (r := r) (n := n) (s := s) (fun h => h7 (by unfold EOk at h; omega)))
    have H0 := Lib.hid h0
    clear h0
    have H1 := Lib.hid h1
    clear h1
    have H2 := Lib.hid h2
    clear h2
    have h3m : decide ((b.size : Int) ≤ 40) = true := decide_eq_true (by omega)
    have H4 := Lib.hid h4
    clear h4
    have H5 := Lib.hid h5
    clear h5
    have H6 := Lib.hid h6
    clear h6
    have H7 := Lib.hid h7
    clear h7
    go_enter Try.func83, Try.ntmps83
    go_wp2_with fail
    refine (in_yes i 1 9999 _ H0.out).mono ?_
    rintro e w' ⟨rfl, rfl⟩
    go_wp2_with fail
    refine (in_yes d 1 6 _ H1.out).mono ?_
    rintro e w' ⟨rfl, rfl⟩
    go_wp2_with fail
    refine (in_yes c 1 9 _ H2.out).mono ?_
    rintro e w' ⟨rfl, rfl⟩
    go_wp2_with fail
    refine (in_yes a 0 1000000000 _ H4.out).mono ?_
    rintro e w' ⟨rfl, rfl⟩
    go_wp2_with fail
    refine (in_yes t 1 1000000 _ H5.out).mono ?_
    rintro e w' ⟨rfl, rfl⟩
    go_wp2_with fail
    refine (in_yes r 0 100000 _ H6.out).mono ?_
    rintro e w' ⟨rfl, rfl⟩
    go_wp2_with fail
    refine (in_no n 0 2000000000 _ H7.out).mono ?_
    rintro e w' ⟨rfl, rfl⟩
    go_wp2_with fail
    go_ret
    exact ⟨by rw [HN.out]; rfl, bOne _ _⟩
  by_cases h8 : 0 ≤ s ∧ s ≤ 3
  rotate_left
  · have HN := Lib.hid (eokB_no (i := i) (d := d) (c := c) (m := b.size) (a := a) (t := t) (r := r) (n := n) (s := s) (fun h => h8 (by unfold EOk at h; omega)))
    have H0 := Lib.hid h0
    clear h0
    have H1 := Lib.hid h1
    clear h1
    have H2 := Lib.hid h2
    clear h2
    have h3m : decide ((b.size : Int) ≤ 40) = true := decide_eq_true (by omega)
    have H4 := Lib.hid h4
    clear h4
    have H5 := Lib.hid h5
    clear h5
    have H6 := Lib.hid h6
    clear h6
    have H7 := Lib.hid h7
    clear h7
    have H8 := Lib.hid h8
    clear h8
    go_enter Try.func83, Try.ntmps83
    go_wp2_with fail
    refine (in_yes i 1 9999 _ H0.out).mono ?_
    rintro e w' ⟨rfl, rfl⟩
    go_wp2_with fail
    refine (in_yes d 1 6 _ H1.out).mono ?_
    rintro e w' ⟨rfl, rfl⟩
    go_wp2_with fail
    refine (in_yes c 1 9 _ H2.out).mono ?_
    rintro e w' ⟨rfl, rfl⟩
    go_wp2_with fail
    refine (in_yes a 0 1000000000 _ H4.out).mono ?_
    rintro e w' ⟨rfl, rfl⟩
    go_wp2_with fail
    refine (in_yes t 1 1000000 _ H5.out).mono ?_
    rintro e w' ⟨rfl, rfl⟩
    go_wp2_with fail
    refine (in_yes r 0 100000 _ H6.out).mono ?_
    rintro e w' ⟨rfl, rfl⟩
    go_wp2_with fail
    refine (in_yes n 0 2000000000 _ H7.out).mono ?_
    rintro e w' ⟨rfl, rfl⟩
    go_wp2_with fail
    refine (in_no s 0 3 _ H8.out).mono ?_
    rintro e w' ⟨rfl, rfl⟩
    go_wp2_with fail
    go_ret
    exact ⟨by rw [HN.out]; rfl, bOne _ _⟩
  have HN := Lib.hid (eokB_yes (i := i) (d := d) (c := c) (m := b.size) (a := a) (t := t) (r := r) (n := n) (s := s) (by unfold EOk; omega))
  have H0 := Lib.hid h0
  clear h0
  have H1 := Lib.hid h1
  clear h1
  have H2 := Lib.hid h2
  clear h2
  have h3m : decide ((b.size : Int) ≤ 40) = true := decide_eq_true (by omega)
  have H4 := Lib.hid h4
  clear h4
  have H5 := Lib.hid h5
  clear h5
  have H6 := Lib.hid h6
  clear h6
  have H7 := Lib.hid h7
  clear h7
  have H8 := Lib.hid h8
  clear h8
  go_enter Try.func83, Try.ntmps83
  go_wp2_with fail
  refine (in_yes i 1 9999 _ H0.out).mono ?_
  rintro e w' ⟨rfl, rfl⟩
  go_wp2_with fail
  refine (in_yes d 1 6 _ H1.out).mono ?_
  rintro e w' ⟨rfl, rfl⟩
  go_wp2_with fail
  refine (in_yes c 1 9 _ H2.out).mono ?_
  rintro e w' ⟨rfl, rfl⟩
  go_wp2_with fail
  refine (in_yes a 0 1000000000 _ H4.out).mono ?_
  rintro e w' ⟨rfl, rfl⟩
  go_wp2_with fail
  refine (in_yes t 1 1000000 _ H5.out).mono ?_
  rintro e w' ⟨rfl, rfl⟩
  go_wp2_with fail
  refine (in_yes r 0 100000 _ H6.out).mono ?_
  rintro e w' ⟨rfl, rfl⟩
  go_wp2_with fail
  refine (in_yes n 0 2000000000 _ H7.out).mono ?_
  rintro e w' ⟨rfl, rfl⟩
  go_wp2_with fail
  refine (in_yes s 0 3 _ H8.out).mono ?_
  rintro e w' ⟨rfl, rfl⟩
  go_wp2_with fail
  go_ret
  exact ⟨by rw [HN.out]; rfl, bOne _ _⟩

end Go.Proofs.Ytecfomaapomncaa.Evt
