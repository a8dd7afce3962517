/-
  The walk of the law FnFrame.
-/
import Derived.Test.YtgbdmpfojiihnaaFdoW
import Derived.Test.YtgbdmpfojiihnaaAtA
import Derived.Test.YtgbdmpfojiihnaaBig
import Derived.Deep.RegionHeld3
namespace Go.Proofs.Ytgbdmpfojiihnaa.Frm
open Go.RowKit Go.Proofs.Ytgbdmpfojiihnaa.Num Go.Proofs.Ytgbdmpfojiihnaa.Kit Go.Proofs.Ytgbdmpfojiihnaa.Draw
set_option linter.unusedVariables false
set_option linter.unusedSimpArgs false

theorem slice_to (s : ByteArray) (j : Nat) (hj : j ≤ s.size) (wx : World) : (Instr.slice 9 (.string s) none (some (.int .i64 (j : Int))) none).run Try.prog wx = .ok (.string (s.extract 0 j)) wx := by
  have h0 : 0 ≤ (j : Int) ∧ (j : Int) ≤ s.size := ⟨by omega, by omega⟩
  simp [go_sem, h0]
  try omega
theorem ext_take (s : ByteArray) (j : Nat) : (s.extract 0 j).data.toList = s.data.toList.take j := by
  rw [ByteArray.data_extract, Array.toList_extract, List.extract_eq_take_drop]
  simp

set_option maxRecDepth 100000 in
set_option maxHeartbeats 4000000 in
theorem fnFrame_walk (w : World) (a0 : Option Addr) (len0 cap0 : Nat) (zs : List Int) (hrow : IsRow .u8 w a0 len0 cap0 zs) :
    Calls Try.prog 3 #[.slice a0 len0 cap0] w fun e w' => e = .returned (.bool true) ∧ Below w.heap.size w w' := by
  obtain ⟨cf, hcf⟩ : ∃ cf : Nat → Int, CodeIs w.heap.size w a0 len0 cap0 cf := ⟨_, hrow.codeIs⟩
  have hle := hcf.le
  have HC := Lib.hid hcf
  have HLE := Lib.hid hle
  clear hrow hcf hle
  go_enter Try.func3, Try.ntmps3
  by_cases hbig : (1048576 : Int) < (len0 : Int)
  · go_wp2_with fail
    refine (big_yes _ a0 len0 cap0 HLE.out hbig).mono ?_
    rintro e w' ⟨rfl, rfl⟩
    go_wp2_with fail
    go_ret
    exact ⟨rfl, Below.refl _ _⟩
  go_wp2_with fail
  refine (big_no _ a0 len0 cap0 HLE.out (by omega)).mono ?_
  rintro e w' ⟨rfl, rfl⟩
  have HLN := Lib.hid (show len0 ≤ 1048576 by omega)
  clear hbig
  go_wp2_with fail
  refine (Fdw.drawPut_e _ a0 len0 cap0 cf HC.out HLN.out).mono ?_
  rintro en w1 ⟨⟨k, d, e, s, i, b, hbs, rfl⟩, hb1⟩
  have HL1 := Lib.hid (low_alloc hb1 (.cells #[.int .i64 k, .int .i64 d, .int .i64 e, .int .i64 s, .int .i64 i, .string b] 25))
  have HB1 := Lib.hid (B6.new w1 k d e s i b 25)
  clear hb1
  obtain ⟨b3, hb3⟩ : ∃ b, b = w1.heap.size := ⟨_, rfl⟩
  go_wp2_with fail
  rw [← hb3] at HB1 ⊢
  clear hb3
  refine (implPut_any k d e s i b _ (by unfold maxLen; omega)).mono ?_
  rintro en w2 ⟨rfl, hb2⟩
  have HL2 := Lib.hid (low_after HL1.out hb2)
  have HB2 := Lib.hid (HB1.out.below hb2)
  clear hb2 HL1 HB1
  obtain ⟨P, hP⟩ : ∃ P : ByteArray, P = ⟨(putF k d e s i b.data.toList).toArray⟩ := ⟨_, rfl⟩
  have HPT := Lib.hid (show (⟨(putF k d e s i b.data.toList).toArray⟩ : ByteArray) = P from hP.symm)
  rw [← hP]
  obtain ⟨c0, c1, c2, c3, c4, c5, hlt⟩ := HB2.out
  by_cases hok : FOk k d e s i b.size
  · have hfok := fokB_yes hok
    have HOK := Lib.hid hok
    have HPB := Lib.hid (show P.data.toList = frBytes k d e s i b.data.toList by rw [hP]; exact put_text hok)
    have hps : P.size = 11 + b.size := put_size HOK.out HPB.out
    clear hP hok
    go_upto_region 5 with fail
    have HKS := Lib.hid (show ∀ w', Below w2.heap.size w2 w' → (fun w' => w'.cell? ⟨b3, 0, none⟩ = some (.int .i64 k) ∧ w'.cell? ⟨b3, 1, none⟩ = some (.int .i64 d) ∧ w'.cell? ⟨b3, 2, none⟩ = some (.int .i64 e) ∧ w'.cell? ⟨b3, 3, none⟩ = some (.int .i64 s) ∧ w'.cell? ⟨b3, 4, none⟩ = some (.int .i64 i) ∧ w'.cell? ⟨b3, 5, none⟩ = some (.string b) ∧ Below w2.heap.size w2 w') w' from fun w' hb => let g := HB2.out.below hb; ⟨g.c0, g.c1, g.c2, g.c3, g.c4, g.c5, hb⟩)
    have HD := Lib.hid (show Below w2.heap.size w2 w2.drew from low_drew (Below.refl _ _))
    go_region_held3 (fun w' => w'.cell? ⟨b3, 0, none⟩ = some (.int .i64 k) ∧ w'.cell? ⟨b3, 1, none⟩ = some (.int .i64 d) ∧ w'.cell? ⟨b3, 2, none⟩ = some (.int .i64 e) ∧ w'.cell? ⟨b3, 3, none⟩ = some (.int .i64 s) ∧ w'.cell? ⟨b3, 4, none⟩ = some (.int .i64 i) ∧ w'.cell? ⟨b3, 5, none⟩ = some (.string b) ∧ Below w2.heap.size w2 w')
      (first
        | exact HKS.out _ HD.out
        | exact HKS.out _ HL.out)
      (first
        | (go_at_call 13; (with_reducible refine (specPut_any k d e s i b _ (by unfold maxLen; omega)).mono ?_); rintro e w' ⟨rfl, hbx⟩; rw [HPT.out]; have HL := Lib.hid (low_after ((‹_ ∧ _ ∧ _ ∧ _ ∧ _ ∧ _ ∧ Below w2.heap.size w2 _›).2.2.2.2.2.2) hbx))
        | (go_at_call 14; (with_reducible refine (implOk_any k d e s i b _ (by unfold maxLen; omega)).mono ?_); rintro e w' ⟨rfl, hbx⟩; rw [hfok]; have HL := Lib.hid (low_after ((‹_ ∧ _ ∧ _ ∧ _ ∧ _ ∧ _ ∧ Below w2.heap.size w2 _›).2.2.2.2.2.2) hbx))
        | (go_at_call 15; (with_reducible refine (specOk_any k d e s i b _ (by unfold maxLen; omega)).mono ?_); rintro e w' ⟨rfl, hbx⟩; rw [hfok]; have HL := Lib.hid (low_after ((‹_ ∧ _ ∧ _ ∧ _ ∧ _ ∧ _ ∧ Below w2.heap.size w2 _›).2.2.2.2.2.2) hbx)))
    have HB3 := Lib.hid (HB2.out.below HL.out)
    have HL3 := Lib.hid (low_after HL2.out HL.out)
    clear HKS HD HB2 HL2 HL c0 c1 c2 c3 c4 c5 hlt
    obtain ⟨c0, c1, c2, c3, c4, c5, hlt⟩ := HB3.out
    go_wp2_with fail
    refine (specOk_any k d e s i b _ (by unfold maxLen; omega)).mono ?_
    rintro en w4 ⟨rfl, hb4⟩
    rw [hfok]
    have HB4 := Lib.hid (HB3.out.below hb4)
    have HL4 := Lib.hid (low_after HL3.out hb4)
    clear hb4 HB3 HL3 c0 c1 c2 c3 c4 c5 hlt
    go_wp2_with fail
    refine (implGet_any P _ (by omega)).mono ?_
    rintro en w5 ⟨he, hb5⟩
    obtain rfl := got_back HOK.out HPB.out he
    have HB5 := Lib.hid ((HB4.out.below hb5).below (bOne w5 (.cells #[.int .i64 k, .int .i64 d, .int .i64 e, .int .i64 s, .int .i64 i, .string b] 25)))
    have HL5 := Lib.hid (low_alloc (low_after HL4.out hb5) (.cells #[.int .i64 k, .int .i64 d, .int .i64 e, .int .i64 s, .int .i64 i, .string b] 25))
    have HA5 := Lib.hid (B6.new w5 k d e s i b 25)
    clear he hb5 HB4 HL4
    obtain ⟨b5, hb5⟩ : ∃ b, b = w5.heap.size := ⟨_, rfl⟩
    obtain ⟨v5, hv5⟩ : ∃ v5, v5 = w5.alloc (.cells #[.int .i64 k, .int .i64 d, .int .i64 e, .int .i64 s, .int .i64 i, .string b] 25) := ⟨_, rfl⟩
    go_upto_region 10 with fail
    rw [← hb5] at HA5 ⊢
    rw [← hv5] at HA5 HB5 HL5 ⊢
    clear hb5 hv5
    have hsl := slice_to P 10 (by omega)
    have hT10 : (P.extract 0 10).size < 11 := by rw [ext_size P 0 10 (by omega)]; omega
    obtain ⟨T, hT⟩ : ∃ T, T = P.extract 0 10 := ⟨_, rfl⟩
    rw [← hT] at hsl hT10
    clear hT
    have hsl' : ∀ wx, (Instr.slice 9 (.string P) none (some (.int .i64 10)) none).run Try.prog wx = .ok (.string T) wx := fun wx => hsl wx
    clear hsl
    go_wp2_with fail
    refine (implGet_any T _ (by omega)).mono ?_
    rintro en w6 ⟨he, hb6⟩
    have hc1 := gcode_short hT10
    obtain rfl := got_bad (by rw [hc1]; decide) he
    rw [hc1]
    have HB6 := Lib.hid ((HB5.out.below hb6).below (bOne w6 (.cells #[.int .i64 0, .int .i64 0, .int .i64 0, .int .i64 0, .int .i64 0, .string ByteArray.empty] 25)))
    have HA6 := Lib.hid ((HA5.out.below hb6).below (bOne w6 (.cells #[.int .i64 0, .int .i64 0, .int .i64 0, .int .i64 0, .int .i64 0, .string ByteArray.empty] 25)))
    have HL6 := Lib.hid (low_alloc (low_after HL5.out hb6) (.cells #[.int .i64 0, .int .i64 0, .int .i64 0, .int .i64 0, .int .i64 0, .string ByteArray.empty] 25))
    clear he hb6 HB5 HA5 HL5 hsl' hT10 hc1
    obtain ⟨v6, hv6⟩ : ∃ v6, v6 = w6.alloc (.cells #[.int .i64 0, .int .i64 0, .int .i64 0, .int .i64 0, .int .i64 0, .string ByteArray.empty] 25) := ⟨_, rfl⟩
    go_upto_region 11 with fail
    rw [← hv6] at HB6 HA6 HL6 ⊢
    clear hv6
    have hadd : ∀ wx, (Op.stringOp .add P ⟨#[120]⟩).run Try.prog wx = .ok (.string (P ++ ⟨#[120]⟩)) wx := fun wx => run_string_add_sum wx P ⟨#[120]⟩ (by rw [hps]; show 11 + b.size + 1 ≤ _; omega)
    have hUs : (P ++ (⟨#[120]⟩ : ByteArray)).size ≤ 1000 := by rw [ByteArray.size_append, hps]; show 11 + b.size + 1 ≤ _; omega
    have hU := code_more (T := P ++ ⟨#[120]⟩) (y := [120]) HOK.out (by rw [ByteArray.data_append, Array.toList_append, HPB.out]) (by simp)
    obtain ⟨U, hUe⟩ : ∃ U : ByteArray, U = P ++ ⟨#[120]⟩ := ⟨_, rfl⟩
    rw [← hUe] at hadd hUs hU
    clear hUe
    go_wp2_with fail
    refine (implGet_any U _ (by omega)).mono ?_
    rintro en w7 ⟨he, hb7⟩
    obtain rfl := got_bad (by omega) he
    have HB7 := Lib.hid ((HB6.out.below hb7).below (bOne w7 (.cells #[.int .i64 0, .int .i64 0, .int .i64 0, .int .i64 0, .int .i64 0, .string ByteArray.empty] 25)))
    have HA7 := Lib.hid ((HA6.out.below hb7).below (bOne w7 (.cells #[.int .i64 0, .int .i64 0, .int .i64 0, .int .i64 0, .int .i64 0, .string ByteArray.empty] 25)))
    have HL7 := Lib.hid (low_alloc (low_after HL6.out hb7) (.cells #[.int .i64 0, .int .i64 0, .int .i64 0, .int .i64 0, .int .i64 0, .string ByteArray.empty] 25))
    clear he hb7 HB6 HA6 HL6 hadd hUs
    obtain ⟨v7, hv7⟩ : ∃ v7, v7 = w7.alloc (.cells #[.int .i64 0, .int .i64 0, .int .i64 0, .int .i64 0, .int .i64 0, .string ByteArray.empty] 25) := ⟨_, rfl⟩
    go_upto_region 12 with fail
    rw [← hv7] at HB7 HA7 HL7 ⊢
    clear hv7
    obtain ⟨c0, c1, c2, c3, c4, c5, hlt⟩ := HB7.out
    obtain ⟨d0, d1, d2, d3, d4, d5, hlt2⟩ := HA7.out
    rcases hU with hU | hU
    all_goals
      rw [hU]
      clear hU
      go_wp2_with fail
      go_ret
      exact ⟨rfl, HL7.out⟩
  · have hfok := fokB_no hok
    have hemp : P.toList.isEmpty = true := is_empty P (by rw [hP, putF_no (b := b.data.toList) (by rw [len_size]; exact hok)]; rfl)
    clear hP hok
    go_upto_region 5 with fail
    have HKS := Lib.hid (show ∀ w', Below w2.heap.size w2 w' → (fun w' => w'.cell? ⟨b3, 0, none⟩ = some (.int .i64 k) ∧ w'.cell? ⟨b3, 1, none⟩ = some (.int .i64 d) ∧ w'.cell? ⟨b3, 2, none⟩ = some (.int .i64 e) ∧ w'.cell? ⟨b3, 3, none⟩ = some (.int .i64 s) ∧ w'.cell? ⟨b3, 4, none⟩ = some (.int .i64 i) ∧ w'.cell? ⟨b3, 5, none⟩ = some (.string b) ∧ Below w2.heap.size w2 w') w' from fun w' hb => let g := HB2.out.below hb; ⟨g.c0, g.c1, g.c2, g.c3, g.c4, g.c5, hb⟩)
    have HD := Lib.hid (show Below w2.heap.size w2 w2.drew from low_drew (Below.refl _ _))
    go_region_held3 (fun w' => w'.cell? ⟨b3, 0, none⟩ = some (.int .i64 k) ∧ w'.cell? ⟨b3, 1, none⟩ = some (.int .i64 d) ∧ w'.cell? ⟨b3, 2, none⟩ = some (.int .i64 e) ∧ w'.cell? ⟨b3, 3, none⟩ = some (.int .i64 s) ∧ w'.cell? ⟨b3, 4, none⟩ = some (.int .i64 i) ∧ w'.cell? ⟨b3, 5, none⟩ = some (.string b) ∧ Below w2.heap.size w2 w')
      (first
        | exact HKS.out _ HD.out
        | exact HKS.out _ HL.out)
      (first
        | (go_at_call 13; (with_reducible refine (specPut_any k d e s i b _ (by unfold maxLen; omega)).mono ?_); rintro e w' ⟨rfl, hbx⟩; rw [HPT.out]; have HL := Lib.hid (low_after ((‹_ ∧ _ ∧ _ ∧ _ ∧ _ ∧ _ ∧ Below w2.heap.size w2 _›).2.2.2.2.2.2) hbx))
        | (go_at_call 14; (with_reducible refine (implOk_any k d e s i b _ (by unfold maxLen; omega)).mono ?_); rintro e w' ⟨rfl, hbx⟩; rw [hfok]; have HL := Lib.hid (low_after ((‹_ ∧ _ ∧ _ ∧ _ ∧ _ ∧ _ ∧ Below w2.heap.size w2 _›).2.2.2.2.2.2) hbx))
        | (go_at_call 15; (with_reducible refine (specOk_any k d e s i b _ (by unfold maxLen; omega)).mono ?_); rintro e w' ⟨rfl, hbx⟩; rw [hfok]; have HL := Lib.hid (low_after ((‹_ ∧ _ ∧ _ ∧ _ ∧ _ ∧ _ ∧ Below w2.heap.size w2 _›).2.2.2.2.2.2) hbx)))
    have HB3 := Lib.hid (HB2.out.below HL.out)
    have HL3 := Lib.hid (low_after HL2.out HL.out)
    clear HKS HD HB2 HL2 HL c0 c1 c2 c3 c4 c5 hlt
    obtain ⟨c0, c1, c2, c3, c4, c5, hlt⟩ := HB3.out
    go_wp2_with fail
    refine (specOk_any k d e s i b _ (by unfold maxLen; omega)).mono ?_
    rintro en w4 ⟨rfl, hb4⟩
    rw [hfok]
    have HB4 := Lib.hid (HB3.out.below hb4)
    have HL4 := Lib.hid (low_after HL3.out hb4)
    clear hb4 HB3 HL3 c0 c1 c2 c3 c4 c5 hlt
    go_wp2_with fail
    go_ret
    exact ⟨rfl, HL4.out⟩
end Go.Proofs.Ytgbdmpfojiihnaa.Frm
