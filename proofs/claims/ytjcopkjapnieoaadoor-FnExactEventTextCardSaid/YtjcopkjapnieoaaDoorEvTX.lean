/-
  The walk of the law FnExactEventText.
-/
import Derived.Test.YtjcopkjapnieoaaDoorEvTI
import Derived.Test.YtjcopkjapnieoaaDoorEvX
namespace Go.Proofs.YtjcopkjapnieoaaDoor.Evt
open Go.RowKit
set_option linter.unusedVariables false

set_option maxRecDepth 100000 in
/-- the law's own walk -/
theorem exactText_walk (w : World) (i d c : Int) (b : ByteArray) (a t r n s : Int) (hb : b.size ≤ maxLen) (ht : Tab w) (hst : Stat w) :
    Calls Tryd.prog 4 #[.agg #[.int .i64 i, .int .i64 d, .int .i64 c, .string b, .int .i64 a, .int .i64 t, .int .i64 r, .int .i64 n, .int .i64 s]] w fun en w' => en = .returned (.bool true) ∧ Below w.heap.size w w' := by
  have HTB := Lib.hid ht
  have HST := Lib.hid hst
  clear ht hst
  have HB0 := Lib.hid (B9.new w i d c b a t r n s 32)
  go_enter Tryd.func4, Tryd.ntmps4
  by_cases h : 1048576 < b.size
  · go_wp2_with fail
    refine (szEvent_big i d c b a t r n s _ hb h).mono ?_
    rintro en w1 ⟨rfl, hb1⟩
    go_wp2_with fail
    go_ret
    exact ⟨rfl, bAfter (bOne w _) hb1 (by simp)⟩
  go_wp2_with fail
  refine (szEvent_ok i d c b a t r n s _ hb (by omega)).mono ?_
  rintro en w1 ⟨rfl, hb1⟩
  have hng : ¬ ((1048576 : Int) - (b.size : Int) < 0) := by omega
  have hge : 0 ≤ (1048576 : Int) - (b.size : Int) := by omega
  have HL1 := Lib.hid (bAfter (bOne w _) hb1 (by simp))
  have HB1 := Lib.hid (HB0.out.below hb1)
  clear hb1 HB0
  obtain ⟨c0, c1, c2, c3, c4, c5, c6, c7, c8, hlt⟩ := HB1.out
  go_wp2_with fail
  refine (toEvent_any i d c b a t r n s _).mono ?_
  rintro en w2 ⟨rfl, hb2⟩
  go_wp2_with fail
  refine (specText_any i d c b a t r n s _ hb).mono ?_
  rintro en w3 ⟨rfl, hb3⟩
  obtain ⟨T, hT⟩ : ∃ T : ByteArray, T = ⟨(textE i d c b.size a t r n s).toArray⟩ := ⟨_, rfl⟩
  rw [← hT]
  have HT := Lib.hid hT
  clear hT
  have hb23 := hb2.trans (hb3.mono hb2.size)
  have HL3 := Lib.hid (bAfter HL1.out hb23 HL1.out.size)
  have HB3 := Lib.hid (HB1.out.below hb23)
  clear hb23 hb2 hb3 HL1 HB1 c0 c1 c2 c3 c4 c5 c6 c7 c8 hlt
  obtain ⟨c0, c1, c2, c3, c4, c5, c6, c7, c8, hlt⟩ := HB3.out
  go_wp2_with fail
  refine (toEvent_any i d c b a t r n s _).mono ?_
  rintro en w4 ⟨rfl, hb4⟩
  go_wp2_with fail
  have hL4 := bAfter HL3.out hb4 HL3.out.size
  refine (implText_any i d c b a t r n s _ hb (HTB.out.below (Nat.le_refl _) hL4) (HST.out.below (Nat.le_refl _) hL4)).mono ?_
  rintro en w5 ⟨rfl, hb5⟩
  rw [← HT.out]
  clear hL4
  have hb45 := hb4.trans (hb5.mono hb4.size)
  have HL5 := Lib.hid (bAfter HL3.out hb45 HL3.out.size)
  clear hb45 hb4 hb5
  have hbt : (T.toList == T.toList) = true := by simp
  go_wp2_with fail
  go_ret
  exact ⟨rfl, HL5.out⟩
end Go.Proofs.YtjcopkjapnieoaaDoor.Evt
