/-
  The walk of the law FnLeast.
-/
import Derived.Test.YtgbdmpfojiihnaaGotA
import Derived.Test.YtgbdmpfojiihnaaAtA
import Derived.Test.YtgbdmpfojiihnaaBig
namespace Go.Proofs.Ytgbdmpfojiihnaa.Frm
open Go.RowKit Go.Proofs.Ytgbdmpfojiihnaa.Num Go.Proofs.Ytgbdmpfojiihnaa.Kit Go.Proofs.Ytgbdmpfojiihnaa.Draw
set_option linter.unusedVariables false
set_option linter.unusedSimpArgs false

/-- n bytes, all nought -/
def zerosB (n : Nat) : ByteArray := ⟨(List.replicate n (0 : UInt8)).toArray⟩
theorem zeros_size (n : Nat) : (zerosB n).size = n := by
  show (List.replicate n (0 : UInt8)).toArray.size = n
  simp
theorem zeros_cells (n : Nat) : (madeCells (Value.int .u8 0).cells (n * 1)).toList = Lib.byteCells (List.replicate n (0 : UInt8)) := by
  rw [Nat.mul_one]
  show (madeCells #[Value.int .u8 0] n).toList = _
  rw [toList_madeCells_one]
  simp [Lib.byteCells]
theorem slice_0 (s : ByteArray) (j : Nat) (hj : j ≤ s.size) (wx : World) : (Instr.slice 9 (.string s) none (some (.int .i64 (j : Int))) none).run Try.prog wx = .ok (.string (s.extract 0 j)) wx := by
  have h0 : 0 ≤ (j : Int) ∧ (j : Int) ≤ s.size := ⟨by omega, by omega⟩
  simp [go_sem, h0]
  try omega
theorem take_ext (s : ByteArray) (j : Nat) : (s.extract 0 j).data.toList = s.data.toList.take j := by
  rw [ByteArray.data_extract, Array.toList_extract, List.extract_eq_take_drop]
  simp

set_option maxRecDepth 100000 in
set_option maxHeartbeats 4000000 in
theorem fnLeast_walk (w : World) (a0 : Option Addr) (len0 cap0 : Nat) (zs : List Int) (hrow : IsRow .u8 w a0 len0 cap0 zs) :
    Calls Try.prog 6 #[.slice a0 len0 cap0] w fun e w' => e = .returned (.bool true) ∧ Below w.heap.size w w' := by
  obtain ⟨cf, hcf⟩ : ∃ cf : Nat → Int, CodeIs w.heap.size w a0 len0 cap0 cf := ⟨_, hrow.codeIs⟩
  have hle := hcf.le
  have HC := Lib.hid hcf
  have HLE := Lib.hid hle
  obtain ⟨i0, hi, hz0, hz1, hz2⟩ := info_parts infoU8
  clear hrow hcf hle
  go_enter Try.func6, Try.ntmps6
  by_cases hbig : (1048576 : Int) < (len0 : Int)
  · go_wp2_with fail
    refine (big_yes _ a0 len0 cap0 HLE.out hbig).mono ?_
    rintro e w' ⟨rfl, rfl⟩
    go_wp2_with fail
    go_ret
    exact ⟨rfl, Below.refl _ _⟩
  go_wp2_with fail
  refine (big_no _ a0 len0 cap0 HLE.out (by omega)).mono ?_
  rintro e w' ⟨rfl, rfl⟩
  clear hbig
  go_wp2_with fail
  refine (at_int _ w.heap.size a0 len0 cap0 cf HC.out 0 (by omega) (by omega) _ rfl).mono ?_
  rintro e w' ⟨⟨rfl, hy0, hy1⟩, rfl⟩
  obtain ⟨z, hz⟩ : ∃ z, z = atF cf len0 (0 : Int).toNat := ⟨_, rfl⟩
  rw [← hz] at hy0 hy1 ⊢
  clear hz
  have hmz : z.tmod 45 = z % 45 := Int.tmod_eq_emod_of_nonneg hy0
  obtain ⟨n, hn⟩ : ∃ n : Nat, z % 45 = (n : Int) := ⟨(z % 45).toNat, by omega⟩
  have hn45 : n < 45 := by omega
  go_wp2_with (at_make; refine wpList_make_full _ rfl _ _ 22 rfl w.heap.size 5 i0 (.int .u8 0) 1 Try.underlying22 hi hz0 hz1 .i64 .i64 _ _ n rfl rfl rfl rfl (by rw [hz2]; omega) (by unfold maxLen; omega) (Nat.le_refl _) ?_; intro w1 hown1 hg1; rw [zeros_cells] at hown1; have hcv := convert_row (P := Try.prog) (l := List.replicate n (0 : UInt8)) 22 9 5 Try.underlying22 Try.underlying5 Try.underlying9 hown1)
  have HB := Lib.hid (show (⟨(List.replicate n (0 : UInt8)).toArray⟩ : ByteArray) = zerosB n from rfl)
  rw [HB.out] at hcv
  have HL1 := Lib.hid (show Below w.heap.size w w1 from (Below.refl _ _).grown hg1 (Nat.le_refl _) (fun k e => by cases e))
  have HZS := Lib.hid (zeros_size n)
  clear hown1 hg1
  go_wp2_with fail
  have HL2 := Lib.hid (low_alloc HL1.out (.cells #[.int .i64 1, .int .i64 1, .int .i64 0, .int .i64 1, .int .i64 1, .string (zerosB n)] 25))
  have HF2 := Lib.hid (B6.new w1 1 1 0 1 1 (zerosB n) 25)
  refine (implPut_any 1 1 0 1 1 (zerosB n) _ (by rw [HZS.out]; unfold maxLen; omega)).mono ?_
  rintro e w3 ⟨rfl, hb3⟩
  have HL3 := Lib.hid (low_after HL2.out hb3)
  have HF3 := Lib.hid (HF2.out.below hb3)
  clear hb3 HL2 HF2 HL1 hcv
  obtain ⟨b4, hb4⟩ : ∃ b, b = w1.heap.size := ⟨_, rfl⟩
  rw [← hb4] at HF3 ⊢
  clear hb4
  obtain ⟨c0, c1, c2, c3, c4, c5, hlt⟩ := HF3.out
  obtain ⟨P, hP⟩ : ∃ P : ByteArray, P = ⟨(putF 1 1 0 1 1 (zerosB n).data.toList).toArray⟩ := ⟨_, rfl⟩
  rw [← hP]
  by_cases h40 : 40 < n
  · have hno : ¬ FOk 1 1 0 1 1 (zerosB n).size := by rw [HZS.out]; unfold FOk; omega
    have hemp : P.toList.isEmpty = true := is_empty P (by rw [hP, putF_no (b := (zerosB n).data.toList) (by rw [len_size]; exact hno)]; rfl)
    clear hP
    have h40' : (40 : Int) < (n : Int) := by omega
    go_wp2_with fail
    refine (implOk_any 1 1 0 1 1 (zerosB n) _ (by rw [HZS.out]; unfold maxLen; omega)).mono ?_
    rintro e w4 ⟨rfl, hb4⟩
    rw [fokB_no hno]
    go_wp2_with fail
    go_ret
    exact ⟨rfl, low_after HL3.out hb4⟩
  have HOK := Lib.hid (show FOk 1 1 0 1 1 (zerosB n).size by rw [HZS.out]; unfold FOk; omega)
  have HPB := Lib.hid (show P.data.toList = frBytes 1 1 0 1 1 (zerosB n).data.toList by rw [hP]; exact put_text HOK.out)
  have hps : P.size = 11 + n := by rw [put_size HOK.out HPB.out, HZS.out]
  have h40' : ¬ ((40 : Int) < (n : Int)) := by omega
  have HPT := Lib.hid (show (⟨(putF 1 1 0 1 1 (zerosB n).data.toList).toArray⟩ : ByteArray) = P from hP.symm)
  clear hP
  go_wp2_with fail
  refine (specPut_any 1 1 0 1 1 (zerosB n) _ (by rw [HZS.out]; unfold maxLen; omega)).mono ?_
  rintro e w4 ⟨rfl, hb4⟩
  rw [HPT.out]
  have HL4 := Lib.hid (low_after HL3.out hb4)
  clear hb4 HL3 HF3 c0 c1 c2 c3 c4 c5 hlt
  go_wp2_with fail
  go_loopw [6] (fun i wr => ∃ j : Nat, j ≤ 11 + n ∧ i = .int .i64 j ∧ Hid (Below w.heap.size w wr)) (fun i _ => 11 + n - (intOf i).toNat)
  case atStart => exact ⟨0, by omega, rfl, HL4⟩
  case round =>
    obtain ⟨j, hj, rfl, HLr⟩ := hrel
    by_cases hlt : j < 11 + n
    · have hsl := slice_0 P j (by omega)
      have HCL := Lib.hid (code_less (T := P.extract 0 j) HOK.out (by rw [take_ext, HPB.out]) (by rw [HZS.out]; omega))
      have HTS := Lib.hid (show (P.extract 0 j).size = j by rw [ext_size P 0 j (by omega)]; omega)
      obtain ⟨T, hT⟩ : ∃ T, T = P.extract 0 j := ⟨_, rfl⟩
      rw [← hT] at hsl HCL HTS
      clear hT
      go_wp2_with fail
      refine (implGet_any T _ (by rw [HTS.out]; omega)).mono ?_
      rintro e w5 ⟨he, hb5⟩
      obtain rfl := got_bad HCL.out he
      have HL6 := Lib.hid (low_alloc (low_after HLr.out hb5) (.cells #[.int .i64 0, .int .i64 0, .int .i64 0, .int .i64 0, .int .i64 0, .string ⟨#[]⟩] 25))
      clear hb5 he HLr
      by_cases h11 : j < 11
      · rw [code_short.2 (show T.size < 11 by rw [HTS.out]; exact h11)]
        have hd : decide ((j : Int) < 11) = true := by simp; omega
        go_wp2_with fail
        go_roundw
        case rel => exact ⟨j + 1, by omega, by go_num, HL6⟩
        case measure => simp [intOf]; omega
      · have hd : decide ((j : Int) < 11) = false := by simp; omega
        have hne1 : gcode T ≠ 1 := fun hx => h11 (by have := code_short.1 hx; rw [HTS.out] at this; exact this)
        rcases (show gcode T = 2 ∨ gcode T = 3 by have h0 := HCL.out; rcases code_cases T with h | h | h | h <;> omega) with hc | hc
        all_goals
          rw [hc]
          clear hc hne1
          go_wp2_with fail
          go_roundw
          case rel => exact ⟨j + 1, by omega, by go_num, HL6⟩
          case measure => simp [intOf]; omega
    · obtain rfl : j = 11 + n := by omega
      go_wp2_with fail
      go_ret
      exact ⟨rfl, HLr.out⟩
end Go.Proofs.Ytgbdmpfojiihnaa.Frm
