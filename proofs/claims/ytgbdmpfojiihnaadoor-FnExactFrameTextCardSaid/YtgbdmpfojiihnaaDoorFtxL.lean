/-
  The law FnExactFrameText walked: the program's text of a frame is the specification's. Condition: the library's table of powers of ten.
-/
import Derived.Test.YtgbdmpfojiihnaaDoorFtxS
namespace Go.Proofs.YtgbdmpfojiihnaaDoor.Frm
open Go.RowKit Go.Proofs.YtgbdmpfojiihnaaDoor.Num
set_option linter.unusedVariables false
theorem exactFrameText_walk (w : World) (k d e s i : Int) (b : ByteArray) (hb : b.size ≤ maxLen) (htab : Lib.TabIs Tryd.prog w "internal/strconv.uint64pow10" .u64 Lib.pow10Tab) :
    Calls Tryd.prog 4 #[.agg #[.int .i64 k, .int .i64 d, .int .i64 e, .int .i64 s, .int .i64 i, .string b]] w fun en w' => en = .returned (.bool true) ∧ Below w.heap.size w w' := by
  have HT := Lib.hid (Tab.of htab)
  have HB0 := Lib.hid (B6.new w k d e s i b 34)
  clear htab
  go_enter Tryd.func4, Tryd.ntmps4
  by_cases h : 1048576 < b.size
  · go_wp2_with fail
    refine (szFrame_big k d e s i b _ hb h).mono ?_
    rintro en w1 ⟨rfl, hb1⟩
    go_wp2_with fail
    go_ret
    exact ⟨rfl, bAfter (bOne w _) hb1 (by simp)⟩
  go_wp2_with fail
  refine (szFrame_ok k d e s i b _ hb (by omega)).mono ?_
  rintro en w1 ⟨rfl, hb1⟩
  have hng : ¬ ((1048576 : Int) - (b.size : Int) < 0) := by omega
  have hge : 0 ≤ (1048576 : Int) - (b.size : Int) := by omega
  have HL1 := Lib.hid (bAfter (bOne w _) hb1 (by simp))
  have HB1 := Lib.hid (HB0.out.below hb1)
  clear hb1 HB0
  obtain ⟨c0, c1, c2, c3, c4, c5, hlt⟩ := HB1.out
  go_wp2_with fail
  refine (toFrame_any k d e s i b _).mono ?_
  rintro en w2 ⟨rfl, hb2⟩
  go_wp2_with fail
  refine (specText_any k d e s i b _ hb).mono ?_
  rintro en w3 ⟨rfl, hb3⟩
  have hb23 := hb2.trans (hb3.mono hb2.size)
  have HL3 := Lib.hid (bAfter HL1.out hb23 HL1.out.size)
  have HB3 := Lib.hid (HB1.out.below hb23)
  clear hb23 hb2 hb3 HL1 HB1 c0 c1 c2 c3 c4 c5 hlt
  obtain ⟨c0, c1, c2, c3, c4, c5, hlt⟩ := HB3.out
  go_wp2_with fail
  refine (toFrame_any k d e s i b _).mono ?_
  rintro en w4 ⟨rfl, hb4⟩
  have HT4 := Lib.hid (HT.out.below (Nat.le_refl _) (bAfter HL3.out hb4 HL3.out.size))
  go_wp2_with fail
  refine (implText_any k d e s i b _ hb HT4.out).mono ?_
  rintro en w5 ⟨rfl, hb5⟩
  have hb45 := hb4.trans (hb5.mono hb4.size)
  have HL5 := Lib.hid (bAfter HL3.out hb45 HL3.out.size)
  clear hb45 hb4 hb5
  go_wp2_with fail
  go_ret
  exact ⟨rfl, HL5.out⟩
end Go.Proofs.YtgbdmpfojiihnaaDoor.Frm
