/-
  The walk of the law FnExactWords.
-/
import Derived.Test.YtkpmbpfdlcdeaaaWordX
import Derived.Test.YtkpmbpfdlcdeaaaMarkW
namespace Go.Proofs.Ytkpmbpfdlcdeaaa.Word
open Go.RowKit Go.Proofs.Ytkpmbpfdlcdeaaa.Kit
set_option linter.unusedVariables false

set_option maxHeartbeats 1000000 in
theorem exactWords_walk (s : ByteArray) (hs : s.size ≤ maxLen) (w : World) :
    Calls Try.prog 6 #[.string s] w fun e w' => e = .returned (.bool true) ∧ Below w.heap.size w w' := by
  have hs' := hs
  unfold maxLen at hs'
  by_cases hbig : (1048576 : Int) < (s.size : Int)
  · go_enter Try.func6, Try.ntmps6
    go_wp2
    go_ret
    exact ⟨rfl, Below.refl _ _⟩
  · have hsm : s.size ≤ 1048576 := by omega
    have hnl := wdsB_le s
    go_enter Try.func6, Try.ntmps6
    go_wp2_with fail
    refine (row_of rfl (specWords_any s _ hsm)).mono ?_
    rintro e w1 ⟨⟨ad1, cap1, rfl, hown1, hr1⟩, hb1⟩
    go_wp2_with fail
    refine (row_of rfl (words_any s _ hsm)).mono ?_
    rintro e w2 ⟨⟨ad2, cap2, rfl, hown2, hr2⟩, hb2⟩
    have hr12 := srow_keep hr1 hr1 (grown_of_below hb2 none) (by simp)
    have hB2 := hb1.trans (hb2.mono hb1.size)
    go_wp2_with fail
    refine (Mark.eq_any (wdsB s) ad2 ad1 cap2 cap1 _ hr2 hr12 (by unfold maxLen; omega)).mono ?_
    rintro e w3 ⟨rfl, hg3⟩
    have hown3 := own_kept_none hown2 hg3
    have hr13 := srow_keep hr1 hr12 hg3 (by simp)
    have hB3 := hB2.trans ((below_of_none hg3).mono hB2.size)
    go_wp2_with fail
    refine (Mark.mark_any 1 (wdsB s).length _ _ ad2 cap2 _ hown3 (by omega) (by omega)).mono ?_
    rintro e w4 ⟨rfl, hown4, hg4⟩
    have hr14 := srow_keep hr1 hr13 hg4 (fun g hg e => by have := own_ge hown3 g e.symm; omega)
    have hr4 := srow_marks hown4
    have hB4 := hB3.grown hg4 hB3.size (fun k hk => Nat.le_trans hb1.size (own_ge hown3 k hk))
    go_wp2_with fail
    refine (Mark.held_any 1 (wdsB s).length ad2 cap2 _ hr4 (by omega) (by omega)).mono ?_
    rintro e w5 ⟨rfl, hg5⟩
    have hr15 := srow_keep hr1 hr14 hg5 (by simp)
    have hr5 := srow_keep hr4 hr4 hg5 (by simp)
    have hB5 := hB4.trans ((below_of_none hg5).mono hB4.size)
    go_wp2_with fail
    refine (row_of rfl (words_any s _ hsm)).mono ?_
    rintro e w6 ⟨⟨ad3, cap3, rfl, hown6, hr6⟩, hb6⟩
    have hr16 := srow_keep hr1 hr15 (grown_of_below hb6 none) (by simp)
    have hr56 := srow_keep hr4 hr5 (grown_of_below hb6 none) (by simp)
    have hB6 := hB5.trans (hb6.mono hB5.size)
    go_wp2_with fail
    refine (Mark.eq_any (wdsB s) ad3 ad1 cap3 cap1 _ hr6 hr16 (by unfold maxLen; omega)).mono ?_
    rintro e w7 ⟨rfl, hg7⟩
    have hr57 := srow_keep hr4 hr56 hg7 (by simp)
    have hB7 := hB6.trans ((below_of_none hg7).mono hB6.size)
    go_wp2_with fail
    refine (Mark.held_any 1 (wdsB s).length ad2 cap2 _ hr57 (by omega) (by omega)).mono ?_
    rintro e w8 ⟨rfl, hg8⟩
    have hB8 := hB7.trans ((below_of_none hg8).mono hB7.size)
    go_wp2_with fail
    go_ret
    exact ⟨rfl, hB8⟩
end Go.Proofs.Ytkpmbpfdlcdeaaa.Word
