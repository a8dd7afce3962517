/-
  The walk of the program's Lines, by the library's contracts; and the walk of the law FnExactLines.
-/
import Derived.Test.YtkpmbpfdlcdeaaaDoorShelf
import Derived.Test.YtkpmbpfdlcdeaaaDoorLineW
import Derived.Test.YtkpmbpfdlcdeaaaDoorMarkW
namespace Go.Proofs.YtkpmbpfdlcdeaaaDoor.Line
open Go.RowKit Go.Proofs.YtkpmbpfdlcdeaaaDoor.Kit
set_option linter.unusedVariables false

theorem clone_any (s : ByteArray) (w : World) (hlim : s.size ≤ 281474976710656) :
    Calls Tryd.prog 32 #[.string s] w fun e w' => e = .returned (.string s) ∧ Below w.heap.size w w' := by
  go_enter Tryd.func32, Tryd.ntmps32
  go_wp2_with fail
  refine (Tryd.stringslite_Clone s _ hlim).mono ?_
  rintro e w1 ⟨rfl, hb1⟩
  go_wp2_with fail
  go_ret
  exact ⟨rfl, hb1⟩

set_option maxHeartbeats 400000 in
theorem lines_any (s : ByteArray) (m : Int) (w : World) (hs : s.size ≤ 1048576) (hm : w.cell? ⟨1, 0, none⟩ = some (.int .i64 m)) :
    Calls Tryd.prog 15 #[.string s] w fun e w' => (∃ v, e = .returned v ∧ w'.ownsRow w.heap.size 9 1 v (lnsB s).length ((lnsB s).map .string)) ∧ Below w.heap.size w w' := by
  have hlt := World.block_lt_of_cell? w _ hm
  have HM := Lib.hid hm
  clear hm
  by_cases h0 : s.size = 0
  · have he := is_empty s h0
    have hl : lnsB s = [] := by unfold lnsB; rw [if_pos h0]
    have HL := Lib.hid hl
    clear hl
    go_enter Tryd.func15, Tryd.ntmps15
    go_wp2
    go_ret
    rw [HL.out]
    exact ⟨⟨_, rfl, World.ownsRow_nil _ _ _ _⟩, Below.refl _ _⟩
  · have he := ne_empty s h0
    have HS := Lib.hid (splitB_lns s h0)
    have HN := Lib.hid (lnsB_len s h0)
    clear h0
    go_enter Tryd.func15, Tryd.ntmps15
    go_wp2_with fail
    refine (clone_any s _ (by omega)).mono ?_
    rintro e w1 ⟨rfl, hb1⟩
    have hm1 : w1.cell? ⟨1, 0, none⟩ = some (.int .i64 m) := (hb1.cell (p := ⟨1, 0, none⟩) hlt).trans HM.out
    have HM1 := Lib.hid hm1
    clear hm1
    go_wp2_with fail
    refine (Tryd.strings_Split s ⟨#[10]⟩ m _ (by omega) HM1.out (by decide)).mono ?_
    rintro e w2 ⟨rfl, rfl⟩
    go_wp2_with fail
    go_ret
    have hle := Lib.countB_le ⟨#[10]⟩ (by decide) s.size s (Nat.le_refl _)
    have hown := World.ownsRow_lit (base := w.heap.size) (e := 9) (size := 1) w1 ((lnsB s).map Value.string).toArray (Lib.countB s ⟨#[10]⟩ + 1) hb1.size (by unfold maxLen; omega) (by simp [HN.out])
    rw [HS.out]
    refine ⟨⟨_, rfl, ?_⟩, hb1.alloc hb1.size _⟩
    rw [HN.out]
    simpa using hown

set_option maxHeartbeats 1000000 in
theorem exactLines_walk (s : ByteArray) (hs : s.size ≤ maxLen) (w : World) (hsh : w.ShapedOpen Tryd.prog) :
    Calls Tryd.prog 6 #[.string s] w fun e w' => e = .returned (.bool true) ∧ Below w.heap.size w w' := by
  have hs' := hs
  unfold maxLen at hs'
  obtain ⟨m, hm⟩ := Tryd.laysM146.s1_3 w hsh
  clear hsh
  have hlt := World.block_lt_of_cell? w _ hm
  have HM := Lib.hid hm
  clear hm
  by_cases hbig : (1048576 : Int) < (s.size : Int)
  · go_enter Tryd.func6, Tryd.ntmps6
    go_wp2
    go_ret
    exact ⟨rfl, Below.refl _ _⟩
  · have hsm : s.size ≤ 1048576 := by omega
    have hnl := lnsB_le s
    go_enter Tryd.func6, Tryd.ntmps6
    go_wp2_with fail
    refine (row_of rfl (specLines_any s _ hsm)).mono ?_
    rintro e w1 ⟨⟨ad1, cap1, rfl, hown1, hr1⟩, hb1⟩
    go_wp2_with fail
    refine (row_of rfl (lines_any s m _ hsm ((hb1.cell (p := ⟨1, 0, none⟩) hlt).trans HM.out))).mono ?_
    rintro e w2 ⟨⟨ad2, cap2, rfl, hown2, hr2⟩, hb2⟩
    have hr12 := srow_keep hr1 hr1 (grown_of_below hb2 none) (by simp)
    have hB2 := hb1.trans (hb2.mono hb1.size)
    go_wp2_with fail
    refine (Mark.eq_any (lnsB s) ad2 ad1 cap2 cap1 _ hr2 hr12 (by unfold maxLen; omega)).mono ?_
    rintro e w3 ⟨rfl, hg3⟩
    have hown3 := own_kept_none hown2 hg3
    have hr13 := srow_keep hr1 hr12 hg3 (by simp)
    have hB3 := hB2.trans ((below_of_none hg3).mono hB2.size)
    go_wp2_with fail
    refine (Mark.mark_any 1 (lnsB s).length _ _ ad2 cap2 _ hown3 (by omega) (by omega)).mono ?_
    rintro e w4 ⟨rfl, hown4, hg4⟩
    have hr14 := srow_keep hr1 hr13 hg4 (fun g hg e => by have := own_ge hown3 g e.symm; omega)
    have hr4 := srow_marks hown4
    have hB4 := hB3.grown hg4 hB3.size (fun k hk => Nat.le_trans hb1.size (own_ge hown3 k hk))
    go_wp2_with fail
    refine (Mark.held_any 1 (lnsB s).length ad2 cap2 _ hr4 (by omega) (by omega)).mono ?_
    rintro e w5 ⟨rfl, hg5⟩
    have hr15 := srow_keep hr1 hr14 hg5 (by simp)
    have hr5 := srow_keep hr4 hr4 hg5 (by simp)
    have hB5 := hB4.trans ((below_of_none hg5).mono hB4.size)
    go_wp2_with fail
    refine (row_of rfl (lines_any s m _ hsm ((hB5.cell (p := ⟨1, 0, none⟩) hlt).trans HM.out))).mono ?_
    rintro e w6 ⟨⟨ad3, cap3, rfl, hown6, hr6⟩, hb6⟩
    have hr16 := srow_keep hr1 hr15 (grown_of_below hb6 none) (by simp)
    have hr56 := srow_keep hr4 hr5 (grown_of_below hb6 none) (by simp)
    have hB6 := hB5.trans (hb6.mono hB5.size)
    go_wp2_with fail
    refine (Mark.eq_any (lnsB s) ad3 ad1 cap3 cap1 _ hr6 hr16 (by unfold maxLen; omega)).mono ?_
    rintro e w7 ⟨rfl, hg7⟩
    have hr57 := srow_keep hr4 hr56 hg7 (by simp)
    have hB7 := hB6.trans ((below_of_none hg7).mono hB6.size)
    go_wp2_with fail
    refine (Mark.held_any 1 (lnsB s).length ad2 cap2 _ hr57 (by omega) (by omega)).mono ?_
    rintro e w8 ⟨rfl, hg8⟩
    have hB8 := hB7.trans ((below_of_none hg8).mono hB7.size)
    go_wp2_with fail
    go_ret
    exact ⟨rfl, hB8⟩
end Go.Proofs.YtkpmbpfdlcdeaaaDoor.Line
