/-
  The walk of the law FnKinds.
-/
import Derived.Test.YtgbdmpfojiihnaaGotA
import Derived.Test.YtgbdmpfojiihnaaAtA
import Derived.Test.YtgbdmpfojiihnaaBig
namespace Go.Proofs.Ytgbdmpfojiihnaa.Frm
open Go.RowKit Go.Proofs.Ytgbdmpfojiihnaa.Num Go.Proofs.Ytgbdmpfojiihnaa.Kit Go.Proofs.Ytgbdmpfojiihnaa.Draw
set_option linter.unusedVariables false
set_option linter.unusedSimpArgs false

set_option maxRecDepth 100000 in
set_option maxHeartbeats 4000000 in
theorem fnKinds_walk (w : World) (a0 : Option Addr) (len0 cap0 : Nat) (zs : List Int) (hrow : IsRow .u8 w a0 len0 cap0 zs) :
    Calls Try.prog 5 #[.slice a0 len0 cap0] w fun e w' => e = .returned (.bool true) ∧ Below w.heap.size w w' := by
  obtain ⟨cf, hcf⟩ : ∃ cf : Nat → Int, CodeIs w.heap.size w a0 len0 cap0 cf := ⟨_, hrow.codeIs⟩
  have hle := hcf.le
  have HC := Lib.hid hcf
  have HLE := Lib.hid hle
  clear hrow hcf hle
  go_enter Try.func5, Try.ntmps5
  by_cases hbig : (1048576 : Int) < (len0 : Int)
  · go_wp2_with fail
    refine (big_yes _ a0 len0 cap0 HLE.out hbig).mono ?_
    rintro e w' ⟨rfl, rfl⟩
    go_wp2_with fail
    go_ret
    exact ⟨rfl, Below.refl _ _⟩
  go_wp2_with fail
  refine (big_no _ a0 len0 cap0 HLE.out (by omega)).mono ?_
  rintro e w' ⟨rfl, rfl⟩
  clear hbig
  go_wp2_with fail
  refine (at_int _ w.heap.size a0 len0 cap0 cf HC.out 0 (by omega) (by omega) _ rfl).mono ?_
  rintro e w' ⟨⟨rfl, hz0, hz1⟩, rfl⟩
  obtain ⟨z, hz⟩ : ∃ z, z = atF cf len0 (0 : Int).toNat := ⟨_, rfl⟩
  rw [← hz] at hz0 hz1 ⊢
  clear hz
  have hmz : z.tmod 4 = z % 4 := Int.tmod_eq_emod_of_nonneg hz0
  have hwm : IntKind.i64.wrap (z.tmod 4) = z % 4 := by rw [hmz]; exact IntWalk.i64_in _ (by omega)
  obtain ⟨K, hK⟩ : ∃ K, K = 1 + z % 4 := ⟨_, rfl⟩
  have hwz : IntKind.i64.wrap (1 + z % 4) = K := by rw [hK]; exact IntWalk.i64_in _ (by omega)
  have hK0 : 1 ≤ K := by omega
  have hK1 : K ≤ 4 := by omega
  clear hK
  go_wp2_with fail
  refine (at_int _ w.heap.size a0 len0 cap0 cf HC.out 1 (by omega) (by omega) _ rfl).mono ?_
  rintro e w' ⟨⟨rfl, hy0, hy1⟩, rfl⟩
  clear hmz hwm hwz hz0 hz1
  obtain ⟨y, hy⟩ : ∃ y, y = atF cf len0 (1 : Int).toNat := ⟨_, rfl⟩
  rw [← hy] at hy0 hy1 ⊢
  clear hy
  have hmy : y.tmod 6 = y % 6 := Int.tmod_eq_emod_of_nonneg hy0
  have hwm : IntKind.i64.wrap (y.tmod 6) = y % 6 := by rw [hmy]; exact IntWalk.i64_in _ (by omega)
  obtain ⟨D, hD⟩ : ∃ D, D = 1 + y % 6 := ⟨_, rfl⟩
  have hwy : IntKind.i64.wrap (1 + y % 6) = D := by rw [hD]; exact IntWalk.i64_in _ (by omega)
  have hD0 : 1 ≤ D := by omega
  have hD1 : D ≤ 6 := by omega
  clear hD
  go_wp2_with fail
  refine (at_int _ w.heap.size a0 len0 cap0 cf HC.out 2 (by omega) (by omega) _ rfl).mono ?_
  rintro e w' ⟨⟨rfl, hx0, hx1⟩, rfl⟩
  clear hmy hwm hwy hy0 hy1
  obtain ⟨x, hx⟩ : ∃ x, x = atF cf len0 (2 : Int).toNat := ⟨_, rfl⟩
  rw [← hx] at hx0 hx1 ⊢
  clear hx
  obtain ⟨E, hE⟩ : ∃ E, E = x * 200 := ⟨_, rfl⟩
  have hwx : IntKind.i64.wrap (x * 200) = E := by rw [hE]; exact IntWalk.i64_in _ (by omega)
  have hE0 : 0 ≤ E := by omega
  have hE1 : E ≤ 51000 := by omega
  clear hE
  go_wp2_with fail
  refine (at_int _ w.heap.size a0 len0 cap0 cf HC.out 3 (by omega) (by omega) _ rfl).mono ?_
  rintro e w' ⟨⟨rfl, hv0, hv1⟩, rfl⟩
  clear hwx hx0 hx1
  obtain ⟨v, hv⟩ : ∃ v, v = atF cf len0 (3 : Int).toNat := ⟨_, rfl⟩
  rw [← hv] at hv0 hv1 ⊢
  clear hv
  obtain ⟨S, hS⟩ : ∃ S, S = 1 + v := ⟨_, rfl⟩
  have hwv : IntKind.i64.wrap (1 + v) = S := by rw [hS]; exact IntWalk.i64_in _ (by omega)
  have hS0 : 1 ≤ S := by omega
  have hS1 : S ≤ 256 := by omega
  clear hS
  rcases (show K = 1 ∨ K = 2 ∨ K = 3 ∨ K = 4 by omega) with rfl | rfl | rfl | rfl
  · go_wp2_with fail
    have HLc := Lib.hid (bOne w (.cells #[.int .i64 1, .int .i64 D, .int .i64 E, .int .i64 S, .int .i64 0, .string ⟨#[]⟩] 25))
    refine (at_int _ w.heap.size a0 len0 cap0 cf (HC.out.below HLc.out) 4 (by omega) (by omega) _ rfl).mono ?_
    rintro e w' ⟨⟨rfl, hu0, hu1⟩, rfl⟩
    obtain ⟨u, hu⟩ : ∃ u, u = atF cf len0 (4 : Int).toNat := ⟨_, rfl⟩
    rw [← hu] at hu0 hu1 ⊢
    clear hu
    obtain ⟨I, hI⟩ : ∃ I, I = 1 + u := ⟨_, rfl⟩
    have hwu : IntKind.i64.wrap (1 + u) = I := by rw [hI]; exact IntWalk.i64_in _ (by omega)
    have hI0 : 1 ≤ I := by omega
    have hI1 : I ≤ 256 := by omega
    clear hI
    have HOK := Lib.hid (show FOk 1 D E S I 0 by unfold FOk; omega)
    go_wp2_with fail
    refine (implPut_any 1 D E S I ⟨#[]⟩ _ (by show 0 ≤ _; unfold maxLen; omega)).mono ?_
    rintro e w1 ⟨rfl, hb1⟩
    have HL1 := Lib.hid (low_after (bOne w _) hb1)
    have HB1 := Lib.hid ((B6.new w 1 D E S I ⟨#[]⟩ 25).below hb1)
    clear hb1
    obtain ⟨P, hP⟩ : ∃ P : ByteArray, P = ⟨(putF 1 D E S I (⟨#[]⟩ : ByteArray).data.toList).toArray⟩ := ⟨_, rfl⟩
    have HPB := Lib.hid (show P.data.toList = frBytes 1 D E S I (⟨#[]⟩ : ByteArray).data.toList by rw [hP]; exact put_text HOK.out)
    rw [← hP]
    clear hP
    go_wp2_with fail
    refine (implGet_any P _ (by rw [put_size (b := ⟨#[]⟩) HOK.out HPB.out]; show 11 + 0 ≤ _; omega)).mono ?_
    rintro e w2 ⟨he, hb2⟩
    obtain rfl := got_back (b := ⟨#[]⟩) HOK.out HPB.out he
    clear he
    have HL2 := Lib.hid (low_after HL1.out hb2)
    have HB2 := Lib.hid (HB1.out.below hb2)
    clear hb2 HL1 HB1
    obtain ⟨c0, c1, c2, c3, c4, c5, hlt⟩ := HB2.out
    go_upto_region 10 with fail
    have A4_5 := Lib.hid ((HB2.out).below (bOne w2 (.cells #[.int .i64 1, .int .i64 D, .int .i64 E, .int .i64 S, .int .i64 I, .string ⟨#[]⟩] 25)))
    have A5 := Lib.hid (B6.new w2 1 D E S I ⟨#[]⟩ 25)
    have HL_5 := Lib.hid (low_alloc HL2.out (.cells #[.int .i64 1, .int .i64 D, .int .i64 E, .int .i64 S, .int .i64 I, .string ⟨#[]⟩] 25))
    obtain ⟨b5, hb5⟩ : ∃ b, b = w2.heap.size := ⟨_, rfl⟩
    obtain ⟨W5, hW5⟩ : ∃ W, W = w2.alloc (.cells #[.int .i64 1, .int .i64 D, .int .i64 E, .int .i64 S, .int .i64 I, .string ⟨#[]⟩] 25) := ⟨_, rfl⟩
    rw [← hW5] at A5 A4_5 HL_5 ⊢
    rw [← hb5] at A5 ⊢
    clear hW5 hb5 c0 c1 c2 c3 c4 c5 hlt
    obtain ⟨c0, c1, c2, c3, c4, c5, hlt⟩ := A4_5.out
    go_upto_region 12 with fail
    have A4_7 := Lib.hid ((A4_5.out).below (bOne W5 (.cells #[.int .i64 1, .int .i64 D, .int .i64 E, .int .i64 S, .int .i64 I, .string ⟨#[120]⟩] 25)))
    have A5_7 := Lib.hid ((A5.out).below (bOne W5 (.cells #[.int .i64 1, .int .i64 D, .int .i64 E, .int .i64 S, .int .i64 I, .string ⟨#[120]⟩] 25)))
    have A7 := Lib.hid (B6.new W5 1 D E S I ⟨#[120]⟩ 25)
    have HL_7 := Lib.hid (low_alloc HL_5.out (.cells #[.int .i64 1, .int .i64 D, .int .i64 E, .int .i64 S, .int .i64 I, .string ⟨#[120]⟩] 25))
    obtain ⟨b7, hb7⟩ : ∃ b, b = W5.heap.size := ⟨_, rfl⟩
    obtain ⟨W7, hW7⟩ : ∃ W, W = W5.alloc (.cells #[.int .i64 1, .int .i64 D, .int .i64 E, .int .i64 S, .int .i64 I, .string ⟨#[120]⟩] 25) := ⟨_, rfl⟩
    rw [← hW7] at A7 A4_7 A5_7 HL_7 ⊢
    rw [← hb7] at A7 ⊢
    clear hW7 hb7 c0 c1 c2 c3 c4 c5 hlt
    obtain ⟨c0, c1, c2, c3, c4, c5, hlt⟩ := A4_7.out
    go_upto_region 14 with fail
    have A4_8 := Lib.hid ((A4_7.out).below (bOne W7 (.cells #[.int .i64 1, .int .i64 D, .int .i64 E, .int .i64 S, .int .i64 5, .string ⟨#[]⟩] 25)))
    have A5_8 := Lib.hid ((A5_7.out).below (bOne W7 (.cells #[.int .i64 1, .int .i64 D, .int .i64 E, .int .i64 S, .int .i64 5, .string ⟨#[]⟩] 25)))
    have A7_8 := Lib.hid ((A7.out).below (bOne W7 (.cells #[.int .i64 1, .int .i64 D, .int .i64 E, .int .i64 S, .int .i64 5, .string ⟨#[]⟩] 25)))
    have A8 := Lib.hid (B6.new W7 1 D E S 5 ⟨#[]⟩ 25)
    have HL_8 := Lib.hid (low_alloc HL_7.out (.cells #[.int .i64 1, .int .i64 D, .int .i64 E, .int .i64 S, .int .i64 5, .string ⟨#[]⟩] 25))
    obtain ⟨b8, hb8⟩ : ∃ b, b = W7.heap.size := ⟨_, rfl⟩
    obtain ⟨W8, hW8⟩ : ∃ W, W = W7.alloc (.cells #[.int .i64 1, .int .i64 D, .int .i64 E, .int .i64 S, .int .i64 5, .string ⟨#[]⟩] 25) := ⟨_, rfl⟩
    rw [← hW8] at A8 A4_8 A5_8 A7_8 HL_8 ⊢
    rw [← hb8] at A8 ⊢
    clear hW8 hb8 c0 c1 c2 c3 c4 c5 hlt
    obtain ⟨c0, c1, c2, c3, c4, c5, hlt⟩ := A4_8.out
    go_upto_region 16 with fail
    have A4_9 := Lib.hid ((A4_8.out).below (bOne W8 (.cells #[.int .i64 1, .int .i64 D, .int .i64 E, .int .i64 0, .int .i64 I, .string ⟨#[]⟩] 25)))
    have A5_9 := Lib.hid ((A5_8.out).below (bOne W8 (.cells #[.int .i64 1, .int .i64 D, .int .i64 E, .int .i64 0, .int .i64 I, .string ⟨#[]⟩] 25)))
    have A7_9 := Lib.hid ((A7_8.out).below (bOne W8 (.cells #[.int .i64 1, .int .i64 D, .int .i64 E, .int .i64 0, .int .i64 I, .string ⟨#[]⟩] 25)))
    have A8_9 := Lib.hid ((A8.out).below (bOne W8 (.cells #[.int .i64 1, .int .i64 D, .int .i64 E, .int .i64 0, .int .i64 I, .string ⟨#[]⟩] 25)))
    have A9 := Lib.hid (B6.new W8 1 D E 0 I ⟨#[]⟩ 25)
    have HL_9 := Lib.hid (low_alloc HL_8.out (.cells #[.int .i64 1, .int .i64 D, .int .i64 E, .int .i64 0, .int .i64 I, .string ⟨#[]⟩] 25))
    obtain ⟨b9, hb9⟩ : ∃ b, b = W8.heap.size := ⟨_, rfl⟩
    obtain ⟨W9, hW9⟩ : ∃ W, W = W8.alloc (.cells #[.int .i64 1, .int .i64 D, .int .i64 E, .int .i64 0, .int .i64 I, .string ⟨#[]⟩] 25) := ⟨_, rfl⟩
    rw [← hW9] at A9 A4_9 A5_9 A7_9 A8_9 HL_9 ⊢
    rw [← hb9] at A9 ⊢
    clear hW9 hb9 c0 c1 c2 c3 c4 c5 hlt
    obtain ⟨c0, c1, c2, c3, c4, c5, hlt⟩ := A4_9.out
    obtain ⟨d0, d1, d2, d3, d4, d5, hlt2⟩ := A5_9.out
    obtain ⟨e0, e1, e2, e3, e4, e5, hlt3⟩ := A7_9.out
    go_wp2_with fail
    refine (implOk_any 1 D E S I ⟨#[120]⟩ _ (by show 1 ≤ _; unfold maxLen; omega)).mono ?_
    rintro en w3 ⟨rfl, hb3⟩
    rw [(show fokB 1 D E S I (⟨#[120]⟩ : ByteArray).size = true from fokB_yes (by show FOk 1 D E S I 1; unfold FOk; omega))]
    have HL3 := Lib.hid (low_after HL_9.out hb3)
    have A7_3 := Lib.hid (A7_9.out.below hb3)
    have A8_3 := Lib.hid (A8_9.out.below hb3)
    have A9_3 := Lib.hid (A9.out.below hb3)
    clear hb3 c0 c1 c2 c3 c4 c5 hlt d0 d1 d2 d3 d4 d5 hlt2 e0 e1 e2 e3 e4 e5 hlt3 A4_9 A5_9 A7_9 A8_9 A9 HL_9
    obtain ⟨c0, c1, c2, c3, c4, c5, hlt⟩ := A8_3.out
    go_wp2_with fail
    refine (implOk_any 1 D E S 5 ⟨#[]⟩ _ (by show 0 ≤ _; unfold maxLen; omega)).mono ?_
    rintro en w4 ⟨rfl, hb4⟩
    rw [(show fokB 1 D E S 5 (⟨#[]⟩ : ByteArray).size = true from fokB_yes (by show FOk 1 D E S 5 0; unfold FOk; omega))]
    have HL4 := Lib.hid (low_after HL3.out hb4)
    have A7_4 := Lib.hid (A7_3.out.below hb4)
    have A9_4 := Lib.hid (A9_3.out.below hb4)
    clear hb4 c0 c1 c2 c3 c4 c5 hlt A7_3 A8_3 A9_3 HL3
    obtain ⟨c0, c1, c2, c3, c4, c5, hlt⟩ := A9_4.out
    go_wp2_with fail
    refine (implOk_any 1 D E 0 I ⟨#[]⟩ _ (by show 0 ≤ _; unfold maxLen; omega)).mono ?_
    rintro en w5 ⟨rfl, hb5⟩
    rw [(show fokB 1 D E 0 I (⟨#[]⟩ : ByteArray).size = false from fokB_no (by show ¬ FOk 1 D E 0 I 0; unfold FOk; omega))]
    have HL5 := Lib.hid (low_after HL4.out hb5)
    have A7_5 := Lib.hid (A7_4.out.below hb5)
    clear hb5 c0 c1 c2 c3 c4 c5 hlt A7_4 A9_4 HL4
    obtain ⟨c0, c1, c2, c3, c4, c5, hlt⟩ := A7_5.out
    go_wp2_with fail
    refine (implPut_any 1 D E S I ⟨#[120]⟩ _ (by show 1 ≤ _; unfold maxLen; omega)).mono ?_
    rintro en w6 ⟨rfl, hb6⟩
    have HL6 := Lib.hid (low_after HL5.out hb6)
    clear hb6 HL5
    obtain ⟨Q, hQ⟩ : ∃ Q : ByteArray, Q = ⟨(putF 1 D E S I (⟨#[120]⟩ : ByteArray).data.toList).toArray⟩ := ⟨_, rfl⟩
    rw [← hQ]
    have hOKg : FOk 1 D E S I (⟨#[120]⟩ : ByteArray).size := by show FOk 1 D E S I 1; unfold FOk; omega
    have hemp : Q.toList.isEmpty = false := ne_empty Q (by rw [put_size (b := ⟨#[120]⟩) hOKg (by rw [hQ]; exact put_text hOKg)]; omega)
    clear hQ hOKg
    go_wp2_with fail
    go_ret
    exact ⟨rfl, HL6.out⟩
  · have HOK := Lib.hid (show FOk 2 D E S 0 0 by unfold FOk; omega)
    go_wp2_with fail
    refine (implPut_any 2 D E S 0 ⟨#[]⟩ _ (by show 0 ≤ _; unfold maxLen; omega)).mono ?_
    rintro e w1 ⟨rfl, hb1⟩
    have HL1 := Lib.hid (low_after (bOne w _) hb1)
    have HB1 := Lib.hid ((B6.new w 2 D E S 0 ⟨#[]⟩ 25).below hb1)
    clear hb1
    obtain ⟨P, hP⟩ : ∃ P : ByteArray, P = ⟨(putF 2 D E S 0 (⟨#[]⟩ : ByteArray).data.toList).toArray⟩ := ⟨_, rfl⟩
    have HPB := Lib.hid (show P.data.toList = frBytes 2 D E S 0 (⟨#[]⟩ : ByteArray).data.toList by rw [hP]; exact put_text HOK.out)
    rw [← hP]
    clear hP
    go_wp2_with fail
    refine (implGet_any P _ (by rw [put_size (b := ⟨#[]⟩) HOK.out HPB.out]; show 11 + 0 ≤ _; omega)).mono ?_
    rintro e w2 ⟨he, hb2⟩
    obtain rfl := got_back (b := ⟨#[]⟩) HOK.out HPB.out he
    clear he
    have HL2 := Lib.hid (low_after HL1.out hb2)
    have HB2 := Lib.hid (HB1.out.below hb2)
    clear hb2 HL1 HB1
    obtain ⟨c0, c1, c2, c3, c4, c5, hlt⟩ := HB2.out
    go_upto_region 10 with fail
    have A4_5 := Lib.hid ((HB2.out).below (bOne w2 (.cells #[.int .i64 2, .int .i64 D, .int .i64 E, .int .i64 S, .int .i64 0, .string ⟨#[]⟩] 25)))
    have A5 := Lib.hid (B6.new w2 2 D E S 0 ⟨#[]⟩ 25)
    have HL_5 := Lib.hid (low_alloc HL2.out (.cells #[.int .i64 2, .int .i64 D, .int .i64 E, .int .i64 S, .int .i64 0, .string ⟨#[]⟩] 25))
    obtain ⟨b5, hb5⟩ : ∃ b, b = w2.heap.size := ⟨_, rfl⟩
    obtain ⟨W5, hW5⟩ : ∃ W, W = w2.alloc (.cells #[.int .i64 2, .int .i64 D, .int .i64 E, .int .i64 S, .int .i64 0, .string ⟨#[]⟩] 25) := ⟨_, rfl⟩
    rw [← hW5] at A5 A4_5 HL_5 ⊢
    rw [← hb5] at A5 ⊢
    clear hW5 hb5 c0 c1 c2 c3 c4 c5 hlt
    obtain ⟨c0, c1, c2, c3, c4, c5, hlt⟩ := A4_5.out
    go_upto_region 12 with fail
    have A4_7 := Lib.hid ((A4_5.out).below (bOne W5 (.cells #[.int .i64 2, .int .i64 D, .int .i64 E, .int .i64 S, .int .i64 0, .string ⟨#[120]⟩] 25)))
    have A5_7 := Lib.hid ((A5.out).below (bOne W5 (.cells #[.int .i64 2, .int .i64 D, .int .i64 E, .int .i64 S, .int .i64 0, .string ⟨#[120]⟩] 25)))
    have A7 := Lib.hid (B6.new W5 2 D E S 0 ⟨#[120]⟩ 25)
    have HL_7 := Lib.hid (low_alloc HL_5.out (.cells #[.int .i64 2, .int .i64 D, .int .i64 E, .int .i64 S, .int .i64 0, .string ⟨#[120]⟩] 25))
    obtain ⟨b7, hb7⟩ : ∃ b, b = W5.heap.size := ⟨_, rfl⟩
    obtain ⟨W7, hW7⟩ : ∃ W, W = W5.alloc (.cells #[.int .i64 2, .int .i64 D, .int .i64 E, .int .i64 S, .int .i64 0, .string ⟨#[120]⟩] 25) := ⟨_, rfl⟩
    rw [← hW7] at A7 A4_7 A5_7 HL_7 ⊢
    rw [← hb7] at A7 ⊢
    clear hW7 hb7 c0 c1 c2 c3 c4 c5 hlt
    obtain ⟨c0, c1, c2, c3, c4, c5, hlt⟩ := A4_7.out
    go_upto_region 14 with fail
    have A4_8 := Lib.hid ((A4_7.out).below (bOne W7 (.cells #[.int .i64 2, .int .i64 D, .int .i64 E, .int .i64 S, .int .i64 5, .string ⟨#[]⟩] 25)))
    have A5_8 := Lib.hid ((A5_7.out).below (bOne W7 (.cells #[.int .i64 2, .int .i64 D, .int .i64 E, .int .i64 S, .int .i64 5, .string ⟨#[]⟩] 25)))
    have A7_8 := Lib.hid ((A7.out).below (bOne W7 (.cells #[.int .i64 2, .int .i64 D, .int .i64 E, .int .i64 S, .int .i64 5, .string ⟨#[]⟩] 25)))
    have A8 := Lib.hid (B6.new W7 2 D E S 5 ⟨#[]⟩ 25)
    have HL_8 := Lib.hid (low_alloc HL_7.out (.cells #[.int .i64 2, .int .i64 D, .int .i64 E, .int .i64 S, .int .i64 5, .string ⟨#[]⟩] 25))
    obtain ⟨b8, hb8⟩ : ∃ b, b = W7.heap.size := ⟨_, rfl⟩
    obtain ⟨W8, hW8⟩ : ∃ W, W = W7.alloc (.cells #[.int .i64 2, .int .i64 D, .int .i64 E, .int .i64 S, .int .i64 5, .string ⟨#[]⟩] 25) := ⟨_, rfl⟩
    rw [← hW8] at A8 A4_8 A5_8 A7_8 HL_8 ⊢
    rw [← hb8] at A8 ⊢
    clear hW8 hb8 c0 c1 c2 c3 c4 c5 hlt
    obtain ⟨c0, c1, c2, c3, c4, c5, hlt⟩ := A4_8.out
    go_upto_region 16 with fail
    have A4_9 := Lib.hid ((A4_8.out).below (bOne W8 (.cells #[.int .i64 2, .int .i64 D, .int .i64 E, .int .i64 0, .int .i64 0, .string ⟨#[]⟩] 25)))
    have A5_9 := Lib.hid ((A5_8.out).below (bOne W8 (.cells #[.int .i64 2, .int .i64 D, .int .i64 E, .int .i64 0, .int .i64 0, .string ⟨#[]⟩] 25)))
    have A7_9 := Lib.hid ((A7_8.out).below (bOne W8 (.cells #[.int .i64 2, .int .i64 D, .int .i64 E, .int .i64 0, .int .i64 0, .string ⟨#[]⟩] 25)))
    have A8_9 := Lib.hid ((A8.out).below (bOne W8 (.cells #[.int .i64 2, .int .i64 D, .int .i64 E, .int .i64 0, .int .i64 0, .string ⟨#[]⟩] 25)))
    have A9 := Lib.hid (B6.new W8 2 D E 0 0 ⟨#[]⟩ 25)
    have HL_9 := Lib.hid (low_alloc HL_8.out (.cells #[.int .i64 2, .int .i64 D, .int .i64 E, .int .i64 0, .int .i64 0, .string ⟨#[]⟩] 25))
    obtain ⟨b9, hb9⟩ : ∃ b, b = W8.heap.size := ⟨_, rfl⟩
    obtain ⟨W9, hW9⟩ : ∃ W, W = W8.alloc (.cells #[.int .i64 2, .int .i64 D, .int .i64 E, .int .i64 0, .int .i64 0, .string ⟨#[]⟩] 25) := ⟨_, rfl⟩
    rw [← hW9] at A9 A4_9 A5_9 A7_9 A8_9 HL_9 ⊢
    rw [← hb9] at A9 ⊢
    clear hW9 hb9 c0 c1 c2 c3 c4 c5 hlt
    obtain ⟨c0, c1, c2, c3, c4, c5, hlt⟩ := A4_9.out
    obtain ⟨d0, d1, d2, d3, d4, d5, hlt2⟩ := A5_9.out
    obtain ⟨e0, e1, e2, e3, e4, e5, hlt3⟩ := A7_9.out
    go_wp2_with fail
    refine (implOk_any 2 D E S 0 ⟨#[120]⟩ _ (by show 1 ≤ _; unfold maxLen; omega)).mono ?_
    rintro en w3 ⟨rfl, hb3⟩
    rw [(show fokB 2 D E S 0 (⟨#[120]⟩ : ByteArray).size = false from fokB_no (by show ¬ FOk 2 D E S 0 1; unfold FOk; omega))]
    have HL3 := Lib.hid (low_after HL_9.out hb3)
    have A7_3 := Lib.hid (A7_9.out.below hb3)
    have A8_3 := Lib.hid (A8_9.out.below hb3)
    have A9_3 := Lib.hid (A9.out.below hb3)
    clear hb3 c0 c1 c2 c3 c4 c5 hlt d0 d1 d2 d3 d4 d5 hlt2 e0 e1 e2 e3 e4 e5 hlt3 A4_9 A5_9 A7_9 A8_9 A9 HL_9
    obtain ⟨c0, c1, c2, c3, c4, c5, hlt⟩ := A8_3.out
    go_wp2_with fail
    refine (implOk_any 2 D E S 5 ⟨#[]⟩ _ (by show 0 ≤ _; unfold maxLen; omega)).mono ?_
    rintro en w4 ⟨rfl, hb4⟩
    rw [(show fokB 2 D E S 5 (⟨#[]⟩ : ByteArray).size = false from fokB_no (by show ¬ FOk 2 D E S 5 0; unfold FOk; omega))]
    have HL4 := Lib.hid (low_after HL3.out hb4)
    have A7_4 := Lib.hid (A7_3.out.below hb4)
    have A9_4 := Lib.hid (A9_3.out.below hb4)
    clear hb4 c0 c1 c2 c3 c4 c5 hlt A7_3 A8_3 A9_3 HL3
    obtain ⟨c0, c1, c2, c3, c4, c5, hlt⟩ := A9_4.out
    go_wp2_with fail
    refine (implOk_any 2 D E 0 0 ⟨#[]⟩ _ (by show 0 ≤ _; unfold maxLen; omega)).mono ?_
    rintro en w5 ⟨rfl, hb5⟩
    rw [(show fokB 2 D E 0 0 (⟨#[]⟩ : ByteArray).size = false from fokB_no (by show ¬ FOk 2 D E 0 0 0; unfold FOk; omega))]
    have HL5 := Lib.hid (low_after HL4.out hb5)
    have A7_5 := Lib.hid (A7_4.out.below hb5)
    clear hb5 c0 c1 c2 c3 c4 c5 hlt A7_4 A9_4 HL4
    obtain ⟨c0, c1, c2, c3, c4, c5, hlt⟩ := A7_5.out
    go_wp2_with fail
    refine (implPut_any 2 D E S 0 ⟨#[120]⟩ _ (by show 1 ≤ _; unfold maxLen; omega)).mono ?_
    rintro en w6 ⟨rfl, hb6⟩
    have HL6 := Lib.hid (low_after HL5.out hb6)
    clear hb6 HL5
    obtain ⟨Q, hQ⟩ : ∃ Q : ByteArray, Q = ⟨(putF 2 D E S 0 (⟨#[120]⟩ : ByteArray).data.toList).toArray⟩ := ⟨_, rfl⟩
    rw [← hQ]
    have hOKg : ¬ FOk 2 D E S 0 (⟨#[120]⟩ : ByteArray).size := by show ¬ FOk 2 D E S 0 1; unfold FOk; omega
    have hemp : Q.toList.isEmpty = true := is_empty Q (by rw [hQ, putF_no (b := (⟨#[120]⟩ : ByteArray).data.toList) hOKg]; rfl)
    clear hQ hOKg
    go_wp2_with fail
    go_ret
    exact ⟨rfl, HL6.out⟩
  · have HOK := Lib.hid (show FOk 3 D E 0 0 0 by unfold FOk; omega)
    go_wp2_with fail
    refine (implPut_any 3 D E 0 0 ⟨#[]⟩ _ (by show 0 ≤ _; unfold maxLen; omega)).mono ?_
    rintro e w1 ⟨rfl, hb1⟩
    have HL1 := Lib.hid (low_after (bOne w _) hb1)
    have HB1 := Lib.hid ((B6.new w 3 D E 0 0 ⟨#[]⟩ 25).below hb1)
    clear hb1
    obtain ⟨P, hP⟩ : ∃ P : ByteArray, P = ⟨(putF 3 D E 0 0 (⟨#[]⟩ : ByteArray).data.toList).toArray⟩ := ⟨_, rfl⟩
    have HPB := Lib.hid (show P.data.toList = frBytes 3 D E 0 0 (⟨#[]⟩ : ByteArray).data.toList by rw [hP]; exact put_text HOK.out)
    rw [← hP]
    clear hP
    go_wp2_with fail
    refine (implGet_any P _ (by rw [put_size (b := ⟨#[]⟩) HOK.out HPB.out]; show 11 + 0 ≤ _; omega)).mono ?_
    rintro e w2 ⟨he, hb2⟩
    obtain rfl := got_back (b := ⟨#[]⟩) HOK.out HPB.out he
    clear he
    have HL2 := Lib.hid (low_after HL1.out hb2)
    have HB2 := Lib.hid (HB1.out.below hb2)
    clear hb2 HL1 HB1
    obtain ⟨c0, c1, c2, c3, c4, c5, hlt⟩ := HB2.out
    go_upto_region 10 with fail
    have A4_5 := Lib.hid ((HB2.out).below (bOne w2 (.cells #[.int .i64 3, .int .i64 D, .int .i64 E, .int .i64 0, .int .i64 0, .string ⟨#[]⟩] 25)))
    have A5 := Lib.hid (B6.new w2 3 D E 0 0 ⟨#[]⟩ 25)
    have HL_5 := Lib.hid (low_alloc HL2.out (.cells #[.int .i64 3, .int .i64 D, .int .i64 E, .int .i64 0, .int .i64 0, .string ⟨#[]⟩] 25))
    obtain ⟨b5, hb5⟩ : ∃ b, b = w2.heap.size := ⟨_, rfl⟩
    obtain ⟨W5, hW5⟩ : ∃ W, W = w2.alloc (.cells #[.int .i64 3, .int .i64 D, .int .i64 E, .int .i64 0, .int .i64 0, .string ⟨#[]⟩] 25) := ⟨_, rfl⟩
    rw [← hW5] at A5 A4_5 HL_5 ⊢
    rw [← hb5] at A5 ⊢
    clear hW5 hb5 c0 c1 c2 c3 c4 c5 hlt
    obtain ⟨c0, c1, c2, c3, c4, c5, hlt⟩ := A4_5.out
    go_upto_region 12 with fail
    have A4_7 := Lib.hid ((A4_5.out).below (bOne W5 (.cells #[.int .i64 3, .int .i64 D, .int .i64 E, .int .i64 0, .int .i64 0, .string ⟨#[120]⟩] 25)))
    have A5_7 := Lib.hid ((A5.out).below (bOne W5 (.cells #[.int .i64 3, .int .i64 D, .int .i64 E, .int .i64 0, .int .i64 0, .string ⟨#[120]⟩] 25)))
    have A7 := Lib.hid (B6.new W5 3 D E 0 0 ⟨#[120]⟩ 25)
    have HL_7 := Lib.hid (low_alloc HL_5.out (.cells #[.int .i64 3, .int .i64 D, .int .i64 E, .int .i64 0, .int .i64 0, .string ⟨#[120]⟩] 25))
    obtain ⟨b7, hb7⟩ : ∃ b, b = W5.heap.size := ⟨_, rfl⟩
    obtain ⟨W7, hW7⟩ : ∃ W, W = W5.alloc (.cells #[.int .i64 3, .int .i64 D, .int .i64 E, .int .i64 0, .int .i64 0, .string ⟨#[120]⟩] 25) := ⟨_, rfl⟩
    rw [← hW7] at A7 A4_7 A5_7 HL_7 ⊢
    rw [← hb7] at A7 ⊢
    clear hW7 hb7 c0 c1 c2 c3 c4 c5 hlt
    obtain ⟨c0, c1, c2, c3, c4, c5, hlt⟩ := A4_7.out
    go_upto_region 14 with fail
    have A4_8 := Lib.hid ((A4_7.out).below (bOne W7 (.cells #[.int .i64 3, .int .i64 D, .int .i64 E, .int .i64 0, .int .i64 5, .string ⟨#[]⟩] 25)))
    have A5_8 := Lib.hid ((A5_7.out).below (bOne W7 (.cells #[.int .i64 3, .int .i64 D, .int .i64 E, .int .i64 0, .int .i64 5, .string ⟨#[]⟩] 25)))
    have A7_8 := Lib.hid ((A7.out).below (bOne W7 (.cells #[.int .i64 3, .int .i64 D, .int .i64 E, .int .i64 0, .int .i64 5, .string ⟨#[]⟩] 25)))
    have A8 := Lib.hid (B6.new W7 3 D E 0 5 ⟨#[]⟩ 25)
    have HL_8 := Lib.hid (low_alloc HL_7.out (.cells #[.int .i64 3, .int .i64 D, .int .i64 E, .int .i64 0, .int .i64 5, .string ⟨#[]⟩] 25))
    obtain ⟨b8, hb8⟩ : ∃ b, b = W7.heap.size := ⟨_, rfl⟩
    obtain ⟨W8, hW8⟩ : ∃ W, W = W7.alloc (.cells #[.int .i64 3, .int .i64 D, .int .i64 E, .int .i64 0, .int .i64 5, .string ⟨#[]⟩] 25) := ⟨_, rfl⟩
    rw [← hW8] at A8 A4_8 A5_8 A7_8 HL_8 ⊢
    rw [← hb8] at A8 ⊢
    clear hW8 hb8 c0 c1 c2 c3 c4 c5 hlt
    obtain ⟨c0, c1, c2, c3, c4, c5, hlt⟩ := A4_8.out
    go_upto_region 16 with fail
    have A4_9 := Lib.hid ((A4_8.out).below (bOne W8 (.cells #[.int .i64 3, .int .i64 D, .int .i64 E, .int .i64 0, .int .i64 0, .string ⟨#[]⟩] 25)))
    have A5_9 := Lib.hid ((A5_8.out).below (bOne W8 (.cells #[.int .i64 3, .int .i64 D, .int .i64 E, .int .i64 0, .int .i64 0, .string ⟨#[]⟩] 25)))
    have A7_9 := Lib.hid ((A7_8.out).below (bOne W8 (.cells #[.int .i64 3, .int .i64 D, .int .i64 E, .int .i64 0, .int .i64 0, .string ⟨#[]⟩] 25)))
    have A8_9 := Lib.hid ((A8.out).below (bOne W8 (.cells #[.int .i64 3, .int .i64 D, .int .i64 E, .int .i64 0, .int .i64 0, .string ⟨#[]⟩] 25)))
    have A9 := Lib.hid (B6.new W8 3 D E 0 0 ⟨#[]⟩ 25)
    have HL_9 := Lib.hid (low_alloc HL_8.out (.cells #[.int .i64 3, .int .i64 D, .int .i64 E, .int .i64 0, .int .i64 0, .string ⟨#[]⟩] 25))
    obtain ⟨b9, hb9⟩ : ∃ b, b = W8.heap.size := ⟨_, rfl⟩
    obtain ⟨W9, hW9⟩ : ∃ W, W = W8.alloc (.cells #[.int .i64 3, .int .i64 D, .int .i64 E, .int .i64 0, .int .i64 0, .string ⟨#[]⟩] 25) := ⟨_, rfl⟩
    rw [← hW9] at A9 A4_9 A5_9 A7_9 A8_9 HL_9 ⊢
    rw [← hb9] at A9 ⊢
    clear hW9 hb9 c0 c1 c2 c3 c4 c5 hlt
    obtain ⟨c0, c1, c2, c3, c4, c5, hlt⟩ := A4_9.out
    obtain ⟨d0, d1, d2, d3, d4, d5, hlt2⟩ := A5_9.out
    obtain ⟨e0, e1, e2, e3, e4, e5, hlt3⟩ := A7_9.out
    go_wp2_with fail
    refine (implOk_any 3 D E 0 0 ⟨#[120]⟩ _ (by show 1 ≤ _; unfold maxLen; omega)).mono ?_
    rintro en w3 ⟨rfl, hb3⟩
    rw [(show fokB 3 D E 0 0 (⟨#[120]⟩ : ByteArray).size = false from fokB_no (by show ¬ FOk 3 D E 0 0 1; unfold FOk; omega))]
    have HL3 := Lib.hid (low_after HL_9.out hb3)
    have A7_3 := Lib.hid (A7_9.out.below hb3)
    have A8_3 := Lib.hid (A8_9.out.below hb3)
    have A9_3 := Lib.hid (A9.out.below hb3)
    clear hb3 c0 c1 c2 c3 c4 c5 hlt d0 d1 d2 d3 d4 d5 hlt2 e0 e1 e2 e3 e4 e5 hlt3 A4_9 A5_9 A7_9 A8_9 A9 HL_9
    obtain ⟨c0, c1, c2, c3, c4, c5, hlt⟩ := A8_3.out
    go_wp2_with fail
    refine (implOk_any 3 D E 0 5 ⟨#[]⟩ _ (by show 0 ≤ _; unfold maxLen; omega)).mono ?_
    rintro en w4 ⟨rfl, hb4⟩
    rw [(show fokB 3 D E 0 5 (⟨#[]⟩ : ByteArray).size = false from fokB_no (by show ¬ FOk 3 D E 0 5 0; unfold FOk; omega))]
    have HL4 := Lib.hid (low_after HL3.out hb4)
    have A7_4 := Lib.hid (A7_3.out.below hb4)
    have A9_4 := Lib.hid (A9_3.out.below hb4)
    clear hb4 c0 c1 c2 c3 c4 c5 hlt A7_3 A8_3 A9_3 HL3
    obtain ⟨c0, c1, c2, c3, c4, c5, hlt⟩ := A9_4.out
    go_wp2_with fail
    refine (implOk_any 3 D E 0 0 ⟨#[]⟩ _ (by show 0 ≤ _; unfold maxLen; omega)).mono ?_
    rintro en w5 ⟨rfl, hb5⟩
    rw [(show fokB 3 D E 0 0 (⟨#[]⟩ : ByteArray).size = true from fokB_yes (by show FOk 3 D E 0 0 0; unfold FOk; omega))]
    have HL5 := Lib.hid (low_after HL4.out hb5)
    have A7_5 := Lib.hid (A7_4.out.below hb5)
    clear hb5 c0 c1 c2 c3 c4 c5 hlt A7_4 A9_4 HL4
    obtain ⟨c0, c1, c2, c3, c4, c5, hlt⟩ := A7_5.out
    go_wp2_with fail
    refine (implPut_any 3 D E 0 0 ⟨#[120]⟩ _ (by show 1 ≤ _; unfold maxLen; omega)).mono ?_
    rintro en w6 ⟨rfl, hb6⟩
    have HL6 := Lib.hid (low_after HL5.out hb6)
    clear hb6 HL5
    obtain ⟨Q, hQ⟩ : ∃ Q : ByteArray, Q = ⟨(putF 3 D E 0 0 (⟨#[120]⟩ : ByteArray).data.toList).toArray⟩ := ⟨_, rfl⟩
    rw [← hQ]
    have hOKg : ¬ FOk 3 D E 0 0 (⟨#[120]⟩ : ByteArray).size := by show ¬ FOk 3 D E 0 0 1; unfold FOk; omega
    have hemp : Q.toList.isEmpty = true := is_empty Q (by rw [hQ, putF_no (b := (⟨#[120]⟩ : ByteArray).data.toList) hOKg]; rfl)
    clear hQ hOKg
    go_wp2_with fail
    go_ret
    exact ⟨rfl, HL6.out⟩
  · have HOK := Lib.hid (show FOk 4 D E S 0 0 by unfold FOk; omega)
    go_wp2_with fail
    refine (implPut_any 4 D E S 0 ⟨#[]⟩ _ (by show 0 ≤ _; unfold maxLen; omega)).mono ?_
    rintro e w1 ⟨rfl, hb1⟩
    have HL1 := Lib.hid (low_after (bOne w _) hb1)
    have HB1 := Lib.hid ((B6.new w 4 D E S 0 ⟨#[]⟩ 25).below hb1)
    clear hb1
    obtain ⟨P, hP⟩ : ∃ P : ByteArray, P = ⟨(putF 4 D E S 0 (⟨#[]⟩ : ByteArray).data.toList).toArray⟩ := ⟨_, rfl⟩
    have HPB := Lib.hid (show P.data.toList = frBytes 4 D E S 0 (⟨#[]⟩ : ByteArray).data.toList by rw [hP]; exact put_text HOK.out)
    rw [← hP]
    clear hP
    go_wp2_with fail
    refine (implGet_any P _ (by rw [put_size (b := ⟨#[]⟩) HOK.out HPB.out]; show 11 + 0 ≤ _; omega)).mono ?_
    rintro e w2 ⟨he, hb2⟩
    obtain rfl := got_back (b := ⟨#[]⟩) HOK.out HPB.out he
    clear he
    have HL2 := Lib.hid (low_after HL1.out hb2)
    have HB2 := Lib.hid (HB1.out.below hb2)
    clear hb2 HL1 HB1
    obtain ⟨c0, c1, c2, c3, c4, c5, hlt⟩ := HB2.out
    go_upto_region 10 with fail
    have A4_5 := Lib.hid ((HB2.out).below (bOne w2 (.cells #[.int .i64 4, .int .i64 D, .int .i64 E, .int .i64 S, .int .i64 0, .string ⟨#[]⟩] 25)))
    have A5 := Lib.hid (B6.new w2 4 D E S 0 ⟨#[]⟩ 25)
    have HL_5 := Lib.hid (low_alloc HL2.out (.cells #[.int .i64 4, .int .i64 D, .int .i64 E, .int .i64 S, .int .i64 0, .string ⟨#[]⟩] 25))
    obtain ⟨b5, hb5⟩ : ∃ b, b = w2.heap.size := ⟨_, rfl⟩
    obtain ⟨W5, hW5⟩ : ∃ W, W = w2.alloc (.cells #[.int .i64 4, .int .i64 D, .int .i64 E, .int .i64 S, .int .i64 0, .string ⟨#[]⟩] 25) := ⟨_, rfl⟩
    rw [← hW5] at A5 A4_5 HL_5 ⊢
    rw [← hb5] at A5 ⊢
    clear hW5 hb5 c0 c1 c2 c3 c4 c5 hlt
    obtain ⟨c0, c1, c2, c3, c4, c5, hlt⟩ := A4_5.out
    go_upto_region 12 with fail
    have A4_7 := Lib.hid ((A4_5.out).below (bOne W5 (.cells #[.int .i64 4, .int .i64 D, .int .i64 E, .int .i64 S, .int .i64 0, .string ⟨#[120]⟩] 25)))
    have A5_7 := Lib.hid ((A5.out).below (bOne W5 (.cells #[.int .i64 4, .int .i64 D, .int .i64 E, .int .i64 S, .int .i64 0, .string ⟨#[120]⟩] 25)))
    have A7 := Lib.hid (B6.new W5 4 D E S 0 ⟨#[120]⟩ 25)
    have HL_7 := Lib.hid (low_alloc HL_5.out (.cells #[.int .i64 4, .int .i64 D, .int .i64 E, .int .i64 S, .int .i64 0, .string ⟨#[120]⟩] 25))
    obtain ⟨b7, hb7⟩ : ∃ b, b = W5.heap.size := ⟨_, rfl⟩
    obtain ⟨W7, hW7⟩ : ∃ W, W = W5.alloc (.cells #[.int .i64 4, .int .i64 D, .int .i64 E, .int .i64 S, .int .i64 0, .string ⟨#[120]⟩] 25) := ⟨_, rfl⟩
    rw [← hW7] at A7 A4_7 A5_7 HL_7 ⊢
    rw [← hb7] at A7 ⊢
    clear hW7 hb7 c0 c1 c2 c3 c4 c5 hlt
    obtain ⟨c0, c1, c2, c3, c4, c5, hlt⟩ := A4_7.out
    go_upto_region 14 with fail
    have A4_8 := Lib.hid ((A4_7.out).below (bOne W7 (.cells #[.int .i64 4, .int .i64 D, .int .i64 E, .int .i64 S, .int .i64 5, .string ⟨#[]⟩] 25)))
    have A5_8 := Lib.hid ((A5_7.out).below (bOne W7 (.cells #[.int .i64 4, .int .i64 D, .int .i64 E, .int .i64 S, .int .i64 5, .string ⟨#[]⟩] 25)))
    have A7_8 := Lib.hid ((A7.out).below (bOne W7 (.cells #[.int .i64 4, .int .i64 D, .int .i64 E, .int .i64 S, .int .i64 5, .string ⟨#[]⟩] 25)))
    have A8 := Lib.hid (B6.new W7 4 D E S 5 ⟨#[]⟩ 25)
    have HL_8 := Lib.hid (low_alloc HL_7.out (.cells #[.int .i64 4, .int .i64 D, .int .i64 E, .int .i64 S, .int .i64 5, .string ⟨#[]⟩] 25))
    obtain ⟨b8, hb8⟩ : ∃ b, b = W7.heap.size := ⟨_, rfl⟩
    obtain ⟨W8, hW8⟩ : ∃ W, W = W7.alloc (.cells #[.int .i64 4, .int .i64 D, .int .i64 E, .int .i64 S, .int .i64 5, .string ⟨#[]⟩] 25) := ⟨_, rfl⟩
    rw [← hW8] at A8 A4_8 A5_8 A7_8 HL_8 ⊢
    rw [← hb8] at A8 ⊢
    clear hW8 hb8 c0 c1 c2 c3 c4 c5 hlt
    obtain ⟨c0, c1, c2, c3, c4, c5, hlt⟩ := A4_8.out
    go_upto_region 16 with fail
    have A4_9 := Lib.hid ((A4_8.out).below (bOne W8 (.cells #[.int .i64 4, .int .i64 D, .int .i64 E, .int .i64 0, .int .i64 0, .string ⟨#[]⟩] 25)))
    have A5_9 := Lib.hid ((A5_8.out).below (bOne W8 (.cells #[.int .i64 4, .int .i64 D, .int .i64 E, .int .i64 0, .int .i64 0, .string ⟨#[]⟩] 25)))
    have A7_9 := Lib.hid ((A7_8.out).below (bOne W8 (.cells #[.int .i64 4, .int .i64 D, .int .i64 E, .int .i64 0, .int .i64 0, .string ⟨#[]⟩] 25)))
    have A8_9 := Lib.hid ((A8.out).below (bOne W8 (.cells #[.int .i64 4, .int .i64 D, .int .i64 E, .int .i64 0, .int .i64 0, .string ⟨#[]⟩] 25)))
    have A9 := Lib.hid (B6.new W8 4 D E 0 0 ⟨#[]⟩ 25)
    have HL_9 := Lib.hid (low_alloc HL_8.out (.cells #[.int .i64 4, .int .i64 D, .int .i64 E, .int .i64 0, .int .i64 0, .string ⟨#[]⟩] 25))
    obtain ⟨b9, hb9⟩ : ∃ b, b = W8.heap.size := ⟨_, rfl⟩
    obtain ⟨W9, hW9⟩ : ∃ W, W = W8.alloc (.cells #[.int .i64 4, .int .i64 D, .int .i64 E, .int .i64 0, .int .i64 0, .string ⟨#[]⟩] 25) := ⟨_, rfl⟩
    rw [← hW9] at A9 A4_9 A5_9 A7_9 A8_9 HL_9 ⊢
    rw [← hb9] at A9 ⊢
    clear hW9 hb9 c0 c1 c2 c3 c4 c5 hlt
    obtain ⟨c0, c1, c2, c3, c4, c5, hlt⟩ := A4_9.out
    obtain ⟨d0, d1, d2, d3, d4, d5, hlt2⟩ := A5_9.out
    obtain ⟨e0, e1, e2, e3, e4, e5, hlt3⟩ := A7_9.out
    go_wp2_with fail
    refine (implOk_any 4 D E S 0 ⟨#[120]⟩ _ (by show 1 ≤ _; unfold maxLen; omega)).mono ?_
    rintro en w3 ⟨rfl, hb3⟩
    rw [(show fokB 4 D E S 0 (⟨#[120]⟩ : ByteArray).size = false from fokB_no (by show ¬ FOk 4 D E S 0 1; unfold FOk; omega))]
    have HL3 := Lib.hid (low_after HL_9.out hb3)
    have A7_3 := Lib.hid (A7_9.out.below hb3)
    have A8_3 := Lib.hid (A8_9.out.below hb3)
    have A9_3 := Lib.hid (A9.out.below hb3)
    clear hb3 c0 c1 c2 c3 c4 c5 hlt d0 d1 d2 d3 d4 d5 hlt2 e0 e1 e2 e3 e4 e5 hlt3 A4_9 A5_9 A7_9 A8_9 A9 HL_9
    obtain ⟨c0, c1, c2, c3, c4, c5, hlt⟩ := A8_3.out
    go_wp2_with fail
    refine (implOk_any 4 D E S 5 ⟨#[]⟩ _ (by show 0 ≤ _; unfold maxLen; omega)).mono ?_
    rintro en w4 ⟨rfl, hb4⟩
    rw [(show fokB 4 D E S 5 (⟨#[]⟩ : ByteArray).size = false from fokB_no (by show ¬ FOk 4 D E S 5 0; unfold FOk; omega))]
    have HL4 := Lib.hid (low_after HL3.out hb4)
    have A7_4 := Lib.hid (A7_3.out.below hb4)
    have A9_4 := Lib.hid (A9_3.out.below hb4)
    clear hb4 c0 c1 c2 c3 c4 c5 hlt A7_3 A8_3 A9_3 HL3
    obtain ⟨c0, c1, c2, c3, c4, c5, hlt⟩ := A9_4.out
    go_wp2_with fail
    refine (implOk_any 4 D E 0 0 ⟨#[]⟩ _ (by show 0 ≤ _; unfold maxLen; omega)).mono ?_
    rintro en w5 ⟨rfl, hb5⟩
    rw [(show fokB 4 D E 0 0 (⟨#[]⟩ : ByteArray).size = false from fokB_no (by show ¬ FOk 4 D E 0 0 0; unfold FOk; omega))]
    have HL5 := Lib.hid (low_after HL4.out hb5)
    have A7_5 := Lib.hid (A7_4.out.below hb5)
    clear hb5 c0 c1 c2 c3 c4 c5 hlt A7_4 A9_4 HL4
    obtain ⟨c0, c1, c2, c3, c4, c5, hlt⟩ := A7_5.out
    go_wp2_with fail
    refine (implPut_any 4 D E S 0 ⟨#[120]⟩ _ (by show 1 ≤ _; unfold maxLen; omega)).mono ?_
    rintro en w6 ⟨rfl, hb6⟩
    have HL6 := Lib.hid (low_after HL5.out hb6)
    clear hb6 HL5
    obtain ⟨Q, hQ⟩ : ∃ Q : ByteArray, Q = ⟨(putF 4 D E S 0 (⟨#[120]⟩ : ByteArray).data.toList).toArray⟩ := ⟨_, rfl⟩
    rw [← hQ]
    have hOKg : ¬ FOk 4 D E S 0 (⟨#[120]⟩ : ByteArray).size := by show ¬ FOk 4 D E S 0 1; unfold FOk; omega
    have hemp : Q.toList.isEmpty = true := is_empty Q (by rw [hQ, putF_no (b := (⟨#[120]⟩ : ByteArray).data.toList) hOKg]; rfl)
    clear hQ hOKg
    go_wp2_with fail
    go_ret
    exact ⟨rfl, HL6.out⟩
end Go.Proofs.Ytgbdmpfojiihnaa.Frm
