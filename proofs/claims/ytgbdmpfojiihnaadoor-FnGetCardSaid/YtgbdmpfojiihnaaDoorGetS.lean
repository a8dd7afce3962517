/-
  The walk of the specification's GetFrame.
-/
import Derived.Test.YtgbdmpfojiihnaaDoorPufW
import Derived.Test.YtgbdmpfojiihnaaDoorGetA
import Derived.Deep.DeepCutAuto
namespace Go.Proofs.YtgbdmpfojiihnaaDoor.Frm
open Go.RowKit Go.Proofs.YtgbdmpfojiihnaaDoor.Num
set_option linter.unusedVariables false

/-- what GetFrame tells: the frame and the code -/
def GotE (s : ByteArray) (en : Ending) : Prop :=
  (gcode s = 0 ∧ en = .returned (.tuple #[.agg #[.int .i64 (gK s), .int .i64 (gD s), .int .i64 (gE s), .int .i64 (gS s), .int .i64 (gI s), .string (gB s (s.size - 2))], .int .i64 0])) ∨
  (gcode s ≠ 0 ∧ en = .returned (.tuple #[.agg #[.int .i64 0, .int .i64 0, .int .i64 0, .int .i64 0, .int .i64 0, .string ByteArray.empty], .int .i64 (gcode s)]))

/-- a frame stored whole into a box -/
theorem six_set {w : World} {a : Nat} {k0 d0 e0 s0 i0 : Int} {b0 : ByteArray} (h : B6 w a k0 d0 e0 s0 i0 b0) (k d e s i : Int) (b : ByteArray) :
    B6 ((((((w.setCell ⟨a, 0, none⟩ (.int .i64 k)).setCell ⟨a, 1, none⟩ (.int .i64 d)).setCell ⟨a, 2, none⟩ (.int .i64 e)).setCell ⟨a, 3, none⟩ (.int .i64 s)).setCell ⟨a, 4, none⟩ (.int .i64 i)).setCell ⟨a, 5, none⟩ (.string b)) a k d e s i b := by
  obtain ⟨c0, c1, c2, c3, c4, c5, hlt⟩ := h
  refine ⟨?_, ?_, ?_, ?_, ?_, ?_, by simpa using hlt⟩ <;> simp [go_sem, c0, c1, c2, c3, c4, c5]
theorem six_low {W w : World} {a : Nat} (h : Below W.heap.size W w) (ha : W.heap.size ≤ a) (k d e s i : Int) (b : ByteArray) :
    Below W.heap.size W ((((((w.setCell ⟨a, 0, none⟩ (.int .i64 k)).setCell ⟨a, 1, none⟩ (.int .i64 d)).setCell ⟨a, 2, none⟩ (.int .i64 e)).setCell ⟨a, 3, none⟩ (.int .i64 s)).setCell ⟨a, 4, none⟩ (.int .i64 i)).setCell ⟨a, 5, none⟩ (.string b)) :=
  (((((h.setCell ha _).setCell ha _).setCell ha _).setCell ha _).setCell ha _).setCell ha _
theorem slice_9 (s : ByteArray) (m : Nat) (h9 : 9 ≤ m) (hm : m ≤ s.size) (wx : World) : (Instr.slice 9 (.string s) (some (.int .i64 9)) (some (.int .i64 (m : Int))) none).run Tryd.prog wx = .ok (.string (s.extract 9 m)) wx :=
  run_slice_string wx 9 s .i64 .i64 9 (m : Int) Tryd.underlying9 (by omega) (by omega) (by omega)
set_option maxRecDepth 100000 in
theorem specGet_short (s : ByteArray) (w : World) (h : s.size < 11) :
    Calls Tryd.prog 8 #[.string s] w fun en w' => en = .returned (.tuple #[.agg #[.int .i64 0, .int .i64 0, .int .i64 0, .int .i64 0, .int .i64 0, .string ByteArray.empty], .int .i64 1]) ∧ Below w.heap.size w w' := by
  obtain ⟨n, hn⟩ : ∃ n : Int, n = (s.size : Int) - 2 := ⟨_, rfl⟩
  have hw : IntKind.i64.wrap ((s.size : Int) - 2) = n := by rw [hn]; exact IntWalk.i64_in _ (by omega)
  have hlt : n < 9 := by omega
  go_enter Tryd.func8, Tryd.ntmps8
  go_wp2_with fail
  refine bodyPost_ret (v := .tuple #[.agg #[.int .i64 0, .int .i64 0, .int .i64 0, .int .i64 0, .int .i64 0, .string ByteArray.empty], .int .i64 1]) (by simp [results, Tryd.results8, go_sem]; rfl) rfl ⟨rfl, ?_⟩
  repeat' first
    | exact Below.refl _ _
    | refine Below.setCell ?_ (by simp; try omega) _
    | refine Below.alloc ?_ (by simp; try omega) _
    | refine Below.drew ?_

set_option maxRecDepth 100000 in
set_option maxHeartbeats 1000000 in
theorem specGet_long (s : ByteArray) (m : Nat) (w : World) (hm : s.size = m + 2) (h : ¬ s.size < 11) (hs : s.size ≤ 281474976710656) :
    Calls Tryd.prog 8 #[.string s] w fun en w' => GotE s en ∧ Below w.heap.size w w' := by
  have hw : IntKind.i64.wrap ((s.size : Int) - 2) = (m : Int) := by rw [hm]; rw [IntWalk.i64_in _ (by omega)]; omega
  have hge : ¬ ((m : Int) < 9) := by omega
  have hge2 : 9 ≤ (m : Int) := by omega
  have hle : (m : Int) ≤ (s.size : Int) := by omega
  have h0 : (0 : Int) ≤ (m : Int) := by omega
  have h9 : 9 ≤ m := by omega
  have hsl := slice_9 s m h9 (by omega)
  go_enter Tryd.func8, Tryd.ntmps8
  go_wp2_with fail
  go_quiet (first | exact (specGetNum_any _ _ _ _ (by unfold maxLen; omega)).mono fun _ _ h => ⟨h.1, _, h.2.symm⟩ | exact (specCheck_any _ _ (by unfold maxLen; simp; omega)).mono fun _ _ h => ⟨h.1, _, h.2.symm⟩)
  have HB0 := Lib.hid (B6.new w 0 0 0 0 0 ⟨#[]⟩ 26)
  have HLW := Lib.hid (low_drewN (bOne w (.cells #[.int .i64 0, .int .i64 0, .int .i64 0, .int .i64 0, .int .i64 0, .string ⟨#[]⟩] 26)) nq)
  have HBW := Lib.hid (HB0.out.below (low_drewN (Below.refl _ _) nq))
  have HFW := Lib.hid (show ∀ j, ((w.alloc (.cells #[.int .i64 0, .int .i64 0, .int .i64 0, .int .i64 0, .int .i64 0, .string ⟨#[]⟩] 26)).drewN nq).frozen? ⟨w.heap.size, j, none⟩ = false from fun j => by simp [go_sem])
  obtain ⟨W, hW⟩ : ∃ W, W = (w.alloc (.cells #[.int .i64 0, .int .i64 0, .int .i64 0, .int .i64 0, .int .i64 0, .string ⟨#[]⟩] 26)).drewN nq := ⟨_, rfl⟩
  rw [← hW] at HLW HBW HFW ⊢
  clear hW HB0
  have f0 := HFW.out 0
  have f1 := HFW.out 1
  have f2 := HFW.out 2
  have f3 := HFW.out 3
  have f4 := HFW.out 4
  have f5 := HFW.out 5
  obtain ⟨c0, c1, c2, c3, c4, c5, hlt⟩ := HBW.out
  by_cases hsum : sumOk s m
  · have hne : (gnVal s (m : Int) 2 != ckVal (List.take m s.data.toList)) = false := by unfold sumOk at hsum; simp [hsum]
    have HSUM := Lib.hid hsum
    clear hsum
    go_upto_region 6 with fail
    go_cut [5] (fun s5 wx => s5 = .pointer (some ⟨W.heap.size, 0, none⟩) ∧ wx = (W.alloc (.cells #[.int .i64 (gnVal s 0 1), .int .i64 (gnVal s 1 1), .int .i64 (gnVal s 2 2), .int .i64 (gnVal s 4 2), .int .i64 (gnVal s 6 2), .string (s.extract 9 m)] 26)).drew)
    case first =>
      go_region_held3 (fun w' => Below W.heap.size W w')
        (first
          | assumption
          | exact low_drew (Below.refl _ _)
          | exact low_alloc ‹_› _
          | exact low_drew (low_alloc (Below.refl _ _) _)
          | exact low_drew (low_alloc ‹_› _))
        (first
          | (go_at_call 25; (with_reducible refine (specGetNum_any s 0 1 _ (by unfold maxLen; omega)).mono ?_); rintro e wX ⟨rfl, rfl⟩)
          | (go_at_call 25; (with_reducible refine (specGetNum_any s 1 1 _ (by unfold maxLen; omega)).mono ?_); rintro e wX ⟨rfl, rfl⟩)
          | (go_at_call 25; (with_reducible refine (specGetNum_any s 2 2 _ (by unfold maxLen; omega)).mono ?_); rintro e wX ⟨rfl, rfl⟩)
          | (go_at_call 25; (with_reducible refine (specGetNum_any s 4 2 _ (by unfold maxLen; omega)).mono ?_); rintro e wX ⟨rfl, rfl⟩)
          | (go_at_call 25; (with_reducible refine (specGetNum_any s 6 2 _ (by unfold maxLen; omega)).mono ?_); rintro e wX ⟨rfl, rfl⟩))
      all_goals
        go_wp2_with fail
        go_meet
        exact ⟨rfl, rfl⟩
    case rest =>
      obtain ⟨rfl, rfl⟩ := hcut
      obtain ⟨b, hbody⟩ : ∃ b, b = s.extract 9 m := ⟨_, rfl⟩
      obtain ⟨k, hk⟩ : ∃ k, k = gnVal s 0 1 := ⟨_, rfl⟩
      obtain ⟨d, hd⟩ : ∃ d, d = gnVal s 1 1 := ⟨_, rfl⟩
      obtain ⟨e, he⟩ : ∃ e, e = gnVal s 2 2 := ⟨_, rfl⟩
      obtain ⟨sq, hsq⟩ : ∃ sq, sq = gnVal s 4 2 := ⟨_, rfl⟩
      obtain ⟨i, hi⟩ : ∃ i, i = gnVal s 6 2 := ⟨_, rfl⟩
      have hbl : b.size ≤ maxLen := by rw [hbody, ext_size s 9 m (by omega)]; unfold maxLen; omega
      have HGP := Lib.hid (show gP s m = putF k d e sq i b.data.toList by rw [gP, hk, hd, he, hsq, hi, hbody]; rfl)
      have HRS := Lib.hid (show (Value.agg #[.int .i64 (gK s), .int .i64 (gD s), .int .i64 (gE s), .int .i64 (gS s), .int .i64 (gI s), .string (gB s (s.size - 2))]) = .agg #[.int .i64 k, .int .i64 d, .int .i64 e, .int .i64 sq, .int .i64 i, .string b] by rw [hk, hd, he, hsq, hi, hbody, show s.size - 2 = m by omega]; rfl)
      rw [← hbody, ← hk, ← hd, ← he, ← hsq, ← hi]
      clear hbody hk hd he hsq hi
      have HLX := Lib.hid (show Below W.heap.size W (W.alloc (.cells #[.int .i64 k, .int .i64 d, .int .i64 e, .int .i64 sq, .int .i64 i, .string b] 26)).drew from low_drew (low_alloc (Below.refl _ _) _))
      have HBX := Lib.hid ((B6.new W k d e sq i b 26).below (low_drew (Below.refl _ _)))
      go_wp2_with fail
      refine (specPut_any k d e sq i b _ hbl).mono ?_
      rintro en w5 ⟨rfl, hb5⟩
      obtain ⟨p, hp⟩ : ∃ p, p = putF k d e sq i b.data.toList := ⟨_, rfl⟩
      rw [← hp]
      rw [← hp] at HGP
      clear hp
      have HL5 := Lib.hid (low_after HLX.out hb5)
      have HB5 := Lib.hid (HBX.out.below hb5)
      have HR5 := Lib.hid (HBW.out.below HL5.out)
      have HF5 := Lib.hid (show ∀ j, w5.frozen? ⟨w.heap.size, j, none⟩ = false from fun j => (World.frozen?_of_block (HL5.out.block _ HBW.out.lt)).trans (HFW.out j))
      clear hb5 HLX HBX f0 f1 f2 f3 f4 f5 c0 c1 c2 c3 c4 c5 hlt
      have f0 := HF5.out 0
      have f1 := HF5.out 1
      have f2 := HF5.out 2
      have f3 := HF5.out 3
      have f4 := HF5.out 4
      have f5 := HF5.out 5
      obtain ⟨c0, c1, c2, c3, c4, c5, hlt⟩ := HR5.out
      obtain ⟨d0, d1, d2, d3, d4, d5, hlt2⟩ := HB5.out
      by_cases hform : p = s.data.toList
      · have heq : (p == s.toList) = true := by rw [Lib.toList_data]; simp [hform]
        have hcode := gcode_ok hm h HSUM.out (HGP.out.trans hform)
        go_wp2_with fail
        have HX := six_set HR5.out k d e sq i b
        have HXL := six_low (bAfter HLW.out HL5.out HLW.out.size) (Nat.le_refl _) k d e sq i b
        obtain ⟨X, hX⟩ : ∃ X, X = ((((((w5.setCell ⟨w.heap.size, 0, none⟩ (.int .i64 k)).setCell ⟨w.heap.size, 1, none⟩ (.int .i64 d)).setCell ⟨w.heap.size, 2, none⟩ (.int .i64 e)).setCell ⟨w.heap.size, 3, none⟩ (.int .i64 sq)).setCell ⟨w.heap.size, 4, none⟩ (.int .i64 i)).setCell ⟨w.heap.size, 5, none⟩ (.string b)) := ⟨_, rfl⟩
        rw [← hX] at HX HXL ⊢
        obtain ⟨x0, x1, x2, x3, x4, x5, hlx⟩ := HX
        refine bodyPost_ret (v := .tuple #[.agg #[.int .i64 k, .int .i64 d, .int .i64 e, .int .i64 sq, .int .i64 i, .string b], .int .i64 0]) (by simp [results, Tryd.results8, go_sem, x0, x1, x2, x3, x4, x5]) rfl ⟨.inl ⟨hcode, by rw [HRS.out]⟩, HXL⟩
      · have heq : (p == s.toList) = false := by rw [Lib.toList_data]; simp [hform]
        have hcode := gcode_form hm h HSUM.out (fun x => hform (HGP.out.symm.trans x))
        go_wp2_with fail
        have HX := six_set HR5.out 0 0 0 0 0 ⟨#[]⟩
        have HXL := six_low (bAfter HLW.out HL5.out HLW.out.size) (Nat.le_refl _) 0 0 0 0 0 ⟨#[]⟩
        obtain ⟨X, hX⟩ : ∃ X, X = ((((((w5.setCell ⟨w.heap.size, 0, none⟩ (.int .i64 0)).setCell ⟨w.heap.size, 1, none⟩ (.int .i64 0)).setCell ⟨w.heap.size, 2, none⟩ (.int .i64 0)).setCell ⟨w.heap.size, 3, none⟩ (.int .i64 0)).setCell ⟨w.heap.size, 4, none⟩ (.int .i64 0)).setCell ⟨w.heap.size, 5, none⟩ (.string ⟨#[]⟩)) := ⟨_, rfl⟩
        rw [← hX] at HX HXL ⊢
        obtain ⟨x0, x1, x2, x3, x4, x5, hlx⟩ := HX
        refine bodyPost_ret (v := .tuple #[.agg #[.int .i64 0, .int .i64 0, .int .i64 0, .int .i64 0, .int .i64 0, .string ByteArray.empty], .int .i64 3]) (by simp [results, Tryd.results8, go_sem, x0, x1, x2, x3, x4, x5]; rfl) rfl ⟨.inr ⟨by omega, by rw [hcode]⟩, HXL⟩
  · have hne : (gnVal s (m : Int) 2 != ckVal (List.take m s.data.toList)) = true := by unfold sumOk at hsum; simp [hsum]
    have hcode := gcode_sum hm h hsum
    go_wp2_with fail
    have HX := six_set HBW.out 0 0 0 0 0 ⟨#[]⟩
    have HXL := six_low HLW.out (Nat.le_refl _) 0 0 0 0 0 ⟨#[]⟩
    obtain ⟨X, hX⟩ : ∃ X, X = ((((((W.setCell ⟨w.heap.size, 0, none⟩ (.int .i64 0)).setCell ⟨w.heap.size, 1, none⟩ (.int .i64 0)).setCell ⟨w.heap.size, 2, none⟩ (.int .i64 0)).setCell ⟨w.heap.size, 3, none⟩ (.int .i64 0)).setCell ⟨w.heap.size, 4, none⟩ (.int .i64 0)).setCell ⟨w.heap.size, 5, none⟩ (.string ⟨#[]⟩)) := ⟨_, rfl⟩
    rw [← hX] at HX HXL ⊢
    obtain ⟨x0, x1, x2, x3, x4, x5, hlx⟩ := HX
    refine bodyPost_ret (v := .tuple #[.agg #[.int .i64 0, .int .i64 0, .int .i64 0, .int .i64 0, .int .i64 0, .string ByteArray.empty], .int .i64 2]) (by simp [results, Tryd.results8, go_sem, x0, x1, x2, x3, x4, x5]; rfl) rfl ⟨.inr ⟨by omega, by rw [hcode]⟩, HXL⟩

theorem specGet_any (s : ByteArray) (w : World) (hs : s.size ≤ 281474976710656) :
    Calls Tryd.prog 8 #[.string s] w fun en w' => GotE s en ∧ Below w.heap.size w w' := by
  by_cases h : s.size < 11
  · exact (specGet_short s w h).mono fun en w' ⟨he, hb⟩ => ⟨.inr ⟨by rw [gcode_short h]; decide, by rw [he, gcode_short h]⟩, hb⟩
  · obtain ⟨m, hm⟩ : ∃ m, s.size = m + 2 := ⟨s.size - 2, by omega⟩
    exact specGet_long s m w hm h hs
end Go.Proofs.YtgbdmpfojiihnaaDoor.Frm
