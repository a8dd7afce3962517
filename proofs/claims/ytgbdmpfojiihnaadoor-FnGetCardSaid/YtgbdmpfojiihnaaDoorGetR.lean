/-
  The walk of the program's readFrame, which panics with the code where a text can't be read.
-/
import Derived.Test.YtgbdmpfojiihnaaDoorGetS
import Derived.Test.YtgbdmpfojiihnaaDoorShelf
import Derived.Defers
import Derived.Recover
namespace Go.Proofs.YtgbdmpfojiihnaaDoor.Frm
open Go.RowKit Go.Proofs.YtgbdmpfojiihnaaDoor.Num
set_option linter.unusedVariables false

theorem clone_any (s : ByteArray) (w : World) (hlim : s.size ≤ 281474976710656) :
    Calls Tryd.prog 45 #[.string s] w fun e w' => e = .returned (.string s) ∧ Below w.heap.size w w' := by
  go_enter Tryd.func45, Tryd.ntmps45
  go_wp2_with fail
  refine (Tryd.stringslite_Clone s _ hlim).mono ?_
  rintro e w1 ⟨rfl, hb1⟩
  go_wp2_with fail
  go_ret
  exact ⟨rfl, hb1⟩
/-- the panic that tells a code -/
def told (c : Int) : Ending := .panicked [{ v := .iface 44 (.int .i64 c), recovered := false }]
/-- what readFrame does -/
def RdE (s : ByteArray) (en : Ending) : Prop :=
  (gcode s = 0 ∧ en = .returned (.agg #[.int .i64 (gK s), .int .i64 (gD s), .int .i64 (gE s), .int .i64 (gS s), .int .i64 (gI s), .string (gB s (s.size - 2))])) ∨ (gcode s ≠ 0 ∧ en = told (gcode s))
/-- a new box of noughts, behind what lies below it stays -/
theorem zero_kept0 {X wC : World} {k : Nat} {ty : TypeId} (h : Below X.heap.size X wC) (hX : X.heap[k]? = some (.cells #[.int .i64 0, .int .i64 0, .int .i64 0, .int .i64 0, .int .i64 0, .string ⟨#[]⟩] ty (0, 0))) :
    B6 wC k 0 0 0 0 0 ⟨#[]⟩ ∧ ∀ j, wC.frozen? ⟨k, j, none⟩ = false := by
  have hC := (h.block k (at_lt hX)).trans hX
  exact ⟨B6.at hC, fun j => by simp [World.frozen?, hC]⟩

theorem zero_kept {W wC : World} (h : Below (W.alloc (.cells #[.int .i64 0, .int .i64 0, .int .i64 0, .int .i64 0, .int .i64 0, .string ⟨#[]⟩] 26)).drew.heap.size (W.alloc (.cells #[.int .i64 0, .int .i64 0, .int .i64 0, .int .i64 0, .int .i64 0, .string ⟨#[]⟩] 26)).drew wC) :
    B6 wC W.heap.size 0 0 0 0 0 ⟨#[]⟩ ∧ ∀ j, wC.frozen? ⟨W.heap.size, j, none⟩ = false := zero_kept0 h (heap_alloc_new W _)

set_option maxRecDepth 100000 in
theorem read_short (s : ByteArray) (w : World) (h : s.size < 11) :
    Calls Tryd.prog 24 #[.string s] w fun en w' => en = told 1 ∧ Below w.heap.size w w' := by
  have hlt : (s.size : Int) < 11 := by omega
  go_enter Tryd.func24, Tryd.ntmps24
  go_wp2_with fail
  exact ⟨rfl, rfl, bOne _ _⟩

set_option maxRecDepth 100000 in
set_option maxHeartbeats 3000000 in
theorem read_long (s : ByteArray) (m : Nat) (w : World) (hm : s.size = m + 2) (h : ¬ s.size < 11) (hs : s.size ≤ 281474976710656) :
    Calls Tryd.prog 24 #[.string s] w fun en w' => RdE s en ∧ Below w.heap.size w w' := by
  have hw : IntKind.i64.wrap ((s.size : Int) - 2) = (m : Int) := by rw [hm]; rw [IntWalk.i64_in _ (by omega)]; omega
  have hge : ¬ ((s.size : Int) < 11) := by omega
  have hge3 : ¬ ((m : Int) + 2 < 11) := by omega
  have hge4 : ¬ (m + 2 < 11) := by omega
  have hge2 : 9 ≤ (m : Int) := by omega
  have hle : (m : Int) ≤ (s.size : Int) := by omega
  have h0 : (0 : Int) ≤ (m : Int) := by omega
  have h9 : 9 ≤ m := by omega
  have hsl := slice_9 s m h9 (by omega)
  go_enter Tryd.func24, Tryd.ntmps24
  go_wp2_with fail
  go_quiet (first | exact (getNum_any _ _ _ _ (by unfold maxLen; omega)).mono fun _ _ h => ⟨h.1, _, h.2.symm⟩ | exact (check_any _ _ (by unfold maxLen; simp; omega)).mono fun _ _ h => ⟨h.1, _, h.2.symm⟩)
  have HB0 := Lib.hid (B6.new w 0 0 0 0 0 ⟨#[]⟩ 26)
  have HLW := Lib.hid (low_drewN (bOne w (.cells #[.int .i64 0, .int .i64 0, .int .i64 0, .int .i64 0, .int .i64 0, .string ⟨#[]⟩] 26)) nq)
  have HBW := Lib.hid (HB0.out.below (low_drewN (Below.refl _ _) nq))
  have HFW := Lib.hid (show ∀ j, ((w.alloc (.cells #[.int .i64 0, .int .i64 0, .int .i64 0, .int .i64 0, .int .i64 0, .string ⟨#[]⟩] 26)).drewN nq).frozen? ⟨w.heap.size, j, none⟩ = false from fun j => by simp [go_sem])
  obtain ⟨W, hW⟩ : ∃ W, W = (w.alloc (.cells #[.int .i64 0, .int .i64 0, .int .i64 0, .int .i64 0, .int .i64 0, .string ⟨#[]⟩] 26)).drewN nq := ⟨_, rfl⟩
  rw [← hW] at HLW HBW HFW ⊢
  clear hW HB0
  have f0 := HFW.out 0
  have f1 := HFW.out 1
  have f2 := HFW.out 2
  have f3 := HFW.out 3
  have f4 := HFW.out 4
  have f5 := HFW.out 5
  obtain ⟨c0, c1, c2, c3, c4, c5, hlt⟩ := HBW.out
  by_cases hsum : sumOk s m
  · have hne : (gnVal s (m : Int) 2 != ckVal (List.take m s.data.toList)) = false := by unfold sumOk at hsum; simp [hsum]
    have HSUM := Lib.hid hsum
    clear hsum
    go_upto_region 6 with fail
    go_cut [4] (fun s4 wx => ∃ kb, s4 = .pointer (some ⟨kb, 0, none⟩) ∧ W.heap.size ≤ kb ∧ Hid (B6 wx kb (gnVal s 0 1) (gnVal s 1 1) (gnVal s 2 2) (gnVal s 4 2) (gnVal s 6 2) (s.extract 9 m)) ∧ Hid (Below W.heap.size W wx))
    case first =>
      go_region_held3 (fun w' => Below W.heap.size W w')
        (first
          | with_reducible assumption
          | with_reducible exact HLC.out
          | with_reducible exact low_drew (Below.refl _ _)
          | with_reducible exact low_alloc HLC.out _
          | with_reducible exact low_drew (low_alloc (Below.refl _ _) _)
          | with_reducible exact low_drew (low_alloc HLC.out _)
          | with_reducible exact six_low HLC.out (Nat.le_refl _) _ _ _ _ _ _
          | with_reducible exact low_drew (six_low HLC.out (Nat.le_refl _) _ _ _ _ _ _))
        (first
          | (go_at_call 44; (with_reducible refine (getNum_any s 0 1 _ (by unfold maxLen; omega)).mono ?_); rintro e wX ⟨rfl, rfl⟩)
          | (go_at_call 44; (with_reducible refine (getNum_any s 1 1 _ (by unfold maxLen; omega)).mono ?_); rintro e wX ⟨rfl, rfl⟩)
          | (go_at_call 44; (with_reducible refine (getNum_any s 2 2 _ (by unfold maxLen; omega)).mono ?_); rintro e wX ⟨rfl, rfl⟩)
          | (go_at_call 44; (with_reducible refine (getNum_any s 4 2 _ (by unfold maxLen; omega)).mono ?_); rintro e wX ⟨rfl, rfl⟩)
          | (go_at_call 44; (with_reducible refine (getNum_any s 6 2 _ (by unfold maxLen; omega)).mono ?_); rintro e wX ⟨rfl, rfl⟩)
          | (go_at_call 45; (with_reducible refine (clone_any (s.extract 9 m) _ (by rw [ext_size s 9 m (by omega)]; omega)).mono ?_); rintro e wC ⟨rfl, hbC⟩; (first | ((with_reducible have hz := zero_kept (W := W) hbC); have HLC := Lib.hid (low_after (low_drew (bOne W _)) hbC); clear hbC; have HZ := Lib.hid hz.1; obtain ⟨z0, z1, z2, z3, z4, z5, zl⟩ := hz.1; have g0 := hz.2 0; have g1 := hz.2 1; have g2 := hz.2 2; have g3 := hz.2 3; have g4 := hz.2 4; have g5 := hz.2 5; clear hz) | (have HLC := Lib.hid (low_after (low_drew (Below.refl W.heap.size W)) hbC); clear hbC)))
      )
      all_goals
        go_wp2_with fail
        go_meet
        first
          | exact ⟨_, rfl, HLC.out.size, Lib.hid (B6.new _ _ _ _ _ _ _ _), Lib.hid (low_alloc HLC.out _)⟩
          | exact ⟨_, rfl, HLC.out.size, Lib.hid ((B6.new _ _ _ _ _ _ _ _).below (low_drew (Below.refl _ _))), Lib.hid (low_drew (low_alloc HLC.out _))⟩
          | exact ⟨_, rfl, Nat.le_refl _, Lib.hid (six_set HZ.out _ _ _ _ _ _), Lib.hid (six_low HLC.out (Nat.le_refl _) _ _ _ _ _ _)⟩
    case rest =>
      obtain ⟨kb, rfl, hkb, HB4, HL4⟩ := hcut
      obtain ⟨b, hbody⟩ : ∃ b, b = s.extract 9 m := ⟨_, rfl⟩
      obtain ⟨k, hk⟩ : ∃ k, k = gnVal s 0 1 := ⟨_, rfl⟩
      obtain ⟨d, hd⟩ : ∃ d, d = gnVal s 1 1 := ⟨_, rfl⟩
      obtain ⟨e, he⟩ : ∃ e, e = gnVal s 2 2 := ⟨_, rfl⟩
      obtain ⟨sq, hsq⟩ : ∃ sq, sq = gnVal s 4 2 := ⟨_, rfl⟩
      obtain ⟨i, hi⟩ : ∃ i, i = gnVal s 6 2 := ⟨_, rfl⟩
      have hbl : b.size ≤ maxLen := by rw [hbody, ext_size s 9 m (by omega)]; unfold maxLen; omega
      have HGP := Lib.hid (show gP s m = putF k d e sq i b.data.toList by rw [gP, hk, hd, he, hsq, hi, hbody]; rfl)
      have HRS := Lib.hid (show (Value.agg #[.int .i64 (gK s), .int .i64 (gD s), .int .i64 (gE s), .int .i64 (gS s), .int .i64 (gI s), .string (gB s (s.size - 2))]) = .agg #[.int .i64 k, .int .i64 d, .int .i64 e, .int .i64 sq, .int .i64 i, .string b] by rw [hk, hd, he, hsq, hi, hbody, show s.size - 2 = m by omega]; rfl)
      rw [← hbody, ← hk, ← hd, ← he, ← hsq, ← hi] at HB4
      clear hbody hk hd he hsq hi
      obtain ⟨d0, d1, d2, d3, d4, d5, hlt2⟩ := HB4.out
      go_wp2_with fail
      refine (implPut_any k d e sq i b _ hbl).mono ?_
      rintro en w5 ⟨rfl, hb5⟩
      obtain ⟨p, hp⟩ : ∃ p, p = putF k d e sq i b.data.toList := ⟨_, rfl⟩
      rw [← hp]
      rw [← hp] at HGP
      clear hp
      have HL5 := Lib.hid (low_after HL4.out hb5)
      have HB5 := Lib.hid (HB4.out.below hb5)
      have HR5 := Lib.hid (HBW.out.below HL5.out)
      have HF5 := Lib.hid (show ∀ j, w5.frozen? ⟨w.heap.size, j, none⟩ = false from fun j => (World.frozen?_of_block (HL5.out.block _ HBW.out.lt)).trans (HFW.out j))
      clear hb5 HL4 HB4 d0 d1 d2 d3 d4 d5 hlt2 f0 f1 f2 f3 f4 f5 c0 c1 c2 c3 c4 c5 hlt
      have f0 := HF5.out 0
      have f1 := HF5.out 1
      have f2 := HF5.out 2
      have f3 := HF5.out 3
      have f4 := HF5.out 4
      have f5 := HF5.out 5
      obtain ⟨c0, c1, c2, c3, c4, c5, hlt⟩ := HR5.out
      obtain ⟨d0, d1, d2, d3, d4, d5, hlt2⟩ := HB5.out
      by_cases hform : p = s.data.toList
      · have heq : (p == s.toList) = true := by rw [Lib.toList_data]; simp [hform]
        have hcode := gcode_ok hm h HSUM.out (HGP.out.trans hform)
        go_wp2_with fail
        have HX := six_set HR5.out k d e sq i b
        have HXL := six_low (bAfter HLW.out HL5.out HLW.out.size) (Nat.le_refl _) k d e sq i b
        obtain ⟨X, hX⟩ : ∃ X, X = ((((((w5.setCell ⟨w.heap.size, 0, none⟩ (.int .i64 k)).setCell ⟨w.heap.size, 1, none⟩ (.int .i64 d)).setCell ⟨w.heap.size, 2, none⟩ (.int .i64 e)).setCell ⟨w.heap.size, 3, none⟩ (.int .i64 sq)).setCell ⟨w.heap.size, 4, none⟩ (.int .i64 i)).setCell ⟨w.heap.size, 5, none⟩ (.string b)) := ⟨_, rfl⟩
        rw [← hX] at HX HXL ⊢
        obtain ⟨x0, x1, x2, x3, x4, x5, hlx⟩ := HX
        refine bodyPost_ret (v := .agg #[.int .i64 k, .int .i64 d, .int .i64 e, .int .i64 sq, .int .i64 i, .string b]) (by simp [results, Tryd.results24, go_sem, x0, x1, x2, x3, x4, x5]) rfl ⟨.inl ⟨hcode, by rw [HRS.out]⟩, HXL⟩
      · have heq : (p == s.toList) = false := by rw [Lib.toList_data]; simp [hform]
        have hcode := gcode_form hm h HSUM.out (fun x => hform (HGP.out.symm.trans x))
        go_wp2_with fail
        exact ⟨rfl, .inr ⟨by omega, by rw [hcode]; rfl⟩, bAfter HLW.out HL5.out HLW.out.size⟩
  · have hne : (gnVal s (m : Int) 2 != ckVal (List.take m s.data.toList)) = true := by unfold sumOk at hsum; simp [hsum]
    have hcode := gcode_sum hm h hsum
    go_wp2_with fail
    exact ⟨rfl, .inr ⟨by omega, by rw [hcode]; rfl⟩, HLW.out⟩

theorem read_any (s : ByteArray) (w : World) (hs : s.size ≤ 281474976710656) :
    Calls Tryd.prog 24 #[.string s] w fun en w' => RdE s en ∧ Below w.heap.size w w' := by
  by_cases h : s.size < 11
  · exact (read_short s w h).mono fun en w' ⟨he, hb⟩ => ⟨.inr ⟨by rw [gcode_short h]; decide, by rw [he, gcode_short h]⟩, hb⟩
  · obtain ⟨m, hm⟩ : ∃ m, s.size = m + 2 := ⟨s.size - 2, by omega⟩
    exact read_long s m w hm h hs
end Go.Proofs.YtgbdmpfojiihnaaDoor.Frm
