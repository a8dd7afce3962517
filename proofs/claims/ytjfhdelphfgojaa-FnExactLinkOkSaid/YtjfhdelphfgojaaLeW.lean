/-
  The walk of the law FnExactLinkOk.
-/
import Derived.Test.YtjfhdelphfgojaaLkX
namespace Go.Proofs.Ytjfhdelphfgojaa.Lnk
open Go.RowKit
set_option linter.unusedVariables false

set_option maxRecDepth 100000 in
set_option maxHeartbeats 1000000 in
theorem exactLok_walk (w : World) (a : Option Addr) (len cap : Nat) (up : Bool) (ep sq : Int) (l : List Y) (h : YIs w.heap.size w a len l) :
    Calls Try.prog 9 #[.agg #[.bool up, .int .i64 ep, .int .i64 sq, .slice a len cap]] w fun e w' => e = .returned (.bool true) ∧ Below w.heap.size w w' := by
  have hle := h.le
  have HBX := Lib.hid (bOne w (.cells #[.bool up, .int .i64 ep, .int .i64 sq, .slice a len cap] 46))
  have HT := Lib.hid (h.here HBX.out)
  have HLE := Lib.hid hle
  have HA := Lib.hid (B4.new w up ep sq (.slice a len cap) 46)
  clear h hle
  go_enter Try.func9, Try.ntmps9
  by_cases hbig : 1048576 < len
  · have HBG := Lib.hid hbig
    clear hbig
    go_wp2_with fail
    refine (szLink_big _ a len cap up ep sq HLE.out HBG.out).mono ?_
    rintro e w1 ⟨rfl, hb1⟩
    have HB1 := Lib.hid hb1
    clear hb1
    go_wp2_with fail
    go_ret
    exact ⟨rfl, bAfter HBX.out HB1.out (by simp)⟩
  · have HSM := Lib.hid (show len ≤ 1048576 by omega)
    clear hbig
    go_wp2_with fail
    refine (szLink_small _ a len cap up ep sq HSM.out).mono ?_
    rintro e w1 ⟨⟨z, hz0, rfl⟩, hb1⟩
    have HW1 := Lib.hid (bAfter HBX.out hb1 (by simp))
    have HT1 := Lib.hid (HT.out.here hb1)
    have HA1 := Lib.hid (HA.out.below hb1)
    clear hb1 HBX HT HA
    obtain ⟨c0, c1, c2, c3, hlt1⟩ := HA1.out
    go_wp2_with fail
    refine (toLink_any _ _ a len cap up ep sq l HT1.out (Nat.le_refl _) HSM.out).mono ?_
    rintro e w2 ⟨⟨a2, cap2, rfl, ho2⟩, hb2⟩
    have HW2 := Lib.hid (bAfter HW1.out hb2 HW1.out.size)
    have HT2 := Lib.hid (HT1.out.here hb2)
    have HA2 := Lib.hid (HA1.out.below hb2)
    have HO2 := Lib.hid ho2.is.2
    clear hb2 ho2 c0 c1 c2 c3 hlt1 HW1 HT1 HA1
    obtain ⟨c0, c1, c2, c3, hlt1⟩ := HA2.out
    go_wp2_with fail
    refine (specLinkOk_any _ a2 l.length cap2 up ep sq l HO2.out).mono ?_
    rintro e w3 ⟨rfl, hb3⟩
    have HW3 := Lib.hid (bAfter HW2.out hb3 HW2.out.size)
    have HT3 := Lib.hid (HT2.out.here hb3)
    have HA3 := Lib.hid (HA2.out.below hb3)
    clear hb3 c0 c1 c2 c3 hlt1 HW2 HT2 HA2 HO2
    obtain ⟨c0, c1, c2, c3, hlt1⟩ := HA3.out
    obtain ⟨q, hq⟩ : ∃ q, q = lokB up ep sq l := ⟨_, rfl⟩
    rw [← hq]
    have HQ := Lib.hid hq
    have hqq : (q != q) = false := by simp
    clear hq
    go_wp2_with fail
    refine (toLink_any _ _ a len cap up ep sq l HT3.out (Nat.le_refl _) HSM.out).mono ?_
    rintro e w4 ⟨⟨a4, cap4, rfl, ho4⟩, hb4⟩
    have HBX4 := Lib.hid (bOne w4 (.cells #[.bool up, .int .i64 ep, .int .i64 sq, .slice a4 l.length cap4] 26))
    have HW4 := Lib.hid (bAfter (bAfter HW3.out hb4 HW3.out.size) HBX4.out (Nat.le_trans HW3.out.size hb4.size))
    have HT4 := Lib.hid ((HT3.out.here hb4).here HBX4.out)
    have HA4 := Lib.hid ((HA3.out.below hb4).below HBX4.out)
    have HX4 := Lib.hid (B4.new w4 up ep sq (.slice a4 l.length cap4) 26)
    have HO4 := Lib.hid (ho4.is.2.here HBX4.out)
    have hne : w.heap.size < w4.heap.size := Nat.lt_of_lt_of_le hlt1 hb4.size
    clear hb4 ho4 c0 c1 c2 c3 hlt1 HW3 HT3 HA3 HBX4
    go_wp2_with fail
    refine (linkOk_any _ a4 l.length cap4 up ep sq l HO4.out).mono ?_
    rintro e w5 ⟨rfl, hb5⟩
    have HW5 := Lib.hid (bAfter HW4.out hb5 HW4.out.size)
    have HT5 := Lib.hid (HT4.out.here hb5)
    have HA5 := Lib.hid (HA4.out.below hb5)
    have HX5 := Lib.hid (HX4.out.below hb5)
    have HO5 := Lib.hid (HO4.out.here hb5)
    clear hb5 HW4 HT4 HA4 HX4 HO4
    rw [← HQ.out]
    obtain ⟨c0, c1, c2, c3, hlt1⟩ := HA5.out
    obtain ⟨d0, d1, d2, d3, hlt2⟩ := HX5.out
    go_wp2_with fail
    have HD := Lib.hid (show Below w5.heap.size w5 w5.drew from below_drew' (Below.refl _ _))
    go_region_held3 (fun w' => w'.cell? ⟨w.heap.size, 0, none⟩ = some (.bool up) ∧ w'.cell? ⟨w.heap.size, 1, none⟩ = some (.int .i64 ep) ∧ w'.cell? ⟨w.heap.size, 2, none⟩ = some (.int .i64 sq) ∧ w'.cell? ⟨w.heap.size, 3, none⟩ = some (.slice a len cap) ∧ w'.cell? ⟨w4.heap.size, 0, none⟩ = some (.bool up) ∧ w'.cell? ⟨w4.heap.size, 1, none⟩ = some (.int .i64 ep) ∧ w'.cell? ⟨w4.heap.size, 2, none⟩ = some (.int .i64 sq) ∧ w'.cell? ⟨w4.heap.size, 3, none⟩ = some (.slice a4 l.length cap4))
      (first
        | go_keep
        | (go_split_ands; exact ⟨below_keep hb6 (Nat.le_refl _) hlt1 ‹_›, below_keep hb6 (Nat.le_refl _) hlt1 ‹_›, below_keep hb6 (Nat.le_refl _) hlt1 ‹_›, below_keep hb6 (Nat.le_refl _) hlt1 ‹_›, below_keep hb6 (Nat.le_refl _) hlt2 ‹_›, below_keep hb6 (Nat.le_refl _) hlt2 ‹_›, below_keep hb6 (Nat.le_refl _) hlt2 ‹_›, below_keep hb6 (Nat.le_refl _) hlt2 ‹_›⟩)
        | (go_split_ands; exact ⟨below_keep hb7 (Nat.le_refl _) (Nat.lt_of_lt_of_le hlt1 hb6.size) ‹_›, below_keep hb7 (Nat.le_refl _) (Nat.lt_of_lt_of_le hlt1 hb6.size) ‹_›, below_keep hb7 (Nat.le_refl _) (Nat.lt_of_lt_of_le hlt1 hb6.size) ‹_›, below_keep hb7 (Nat.le_refl _) (Nat.lt_of_lt_of_le hlt1 hb6.size) ‹_›, below_keep hb7 (Nat.le_refl _) (Nat.lt_of_lt_of_le hlt2 hb6.size) ‹_›, below_keep hb7 (Nat.le_refl _) (Nat.lt_of_lt_of_le hlt2 hb6.size) ‹_›, below_keep hb7 (Nat.le_refl _) (Nat.lt_of_lt_of_le hlt2 hb6.size) ‹_›, below_keep hb7 (Nat.le_refl _) (Nat.lt_of_lt_of_le hlt2 hb6.size) ‹_›⟩))
      (first
        | (go_at_call 41; refine (toLink_any _ _ a len cap up ep sq l (HT5.out.here HD.out) (Nat.le_refl _) HSM.out).mono ?_; rintro e w6 ⟨⟨a6, cap6, rfl, ho6⟩, hb6⟩)
        | (go_at_call 42; refine (eqLink_yes _ _ a4 a6 l.length cap4 cap6 up ep sq l ((HO5.out.here HD.out).here hb6) ho6.is.2 (Nat.le_refl _)).mono ?_; rintro e w7 ⟨rfl, hb7⟩))
    go_wp2
    go_ret
    exact ⟨rfl, bAfter (bAfter (bAfter HW5.out HD.out HW5.out.size) hb6 HW5.out.size) hb7 (Nat.le_trans HW5.out.size hb6.size)⟩
end Go.Proofs.Ytjfhdelphfgojaa.Lnk
