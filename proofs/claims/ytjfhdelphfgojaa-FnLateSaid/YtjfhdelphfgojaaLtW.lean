/-
  The walk of the law FnLate.
-/
import Derived.Test.YtjfhdelphfgojaaLmD
import Derived.Test.YtjfhdelphfgojaaLnB
import Derived.Test.YtjfhdelphfgojaaLkD
import Derived.Test.YtjfhdelphfgojaaLkH
import Derived.Test.YtjfhdelphfgojaaLkL
import Derived.Test.YtjfhdelphfgojaaLkI
import Derived.Test.YtjfhdelphfgojaaRgk
import Derived.Test.YtjfhdelphfgojaaBig
import Derived.Deep.DeepCutAuto
import Derived.Deep.RegionHeld3
namespace Go.Proofs.Ytjfhdelphfgojaa.Lnk
open Go.RowKit Go.Proofs.Ytjfhdelphfgojaa.Kit Go.Proofs.Ytjfhdelphfgojaa.Draw
set_option linter.unusedVariables false
set_option linter.unusedSimpArgs false

set_option maxRecDepth 100000 in
set_option maxHeartbeats 4000000 in
theorem fnLate_walk (w : World) (a0 : Option Addr) (len0 cap0 : Nat) (zs : List Int) (hrow : IsRow .u8 w a0 len0 cap0 zs) :
    Calls Try.prog 5 #[.slice a0 len0 cap0] w fun e w' => e = .returned (.bool true) ∧ Below w.heap.size w w' := by
  have hcode := hrow.code
  have hle := hcode.le
  have HC := Lib.hid hcode
  have HLE := Lib.hid hle
  clear hrow hcode hle
  go_enter Try.func5, Try.ntmps5
  by_cases hbig : (1048576 : Int) < (len0 : Int)
  · go_wp2_with fail
    refine (big_yes _ a0 len0 cap0 HLE.out hbig).mono ?_
    rintro e w' ⟨rfl, rfl⟩
    go_wp2_with fail
    go_ret
    exact ⟨rfl, Below.refl _ _⟩
  go_wp2_with fail
  refine (big_no _ a0 len0 cap0 HLE.out (by omega)).mono ?_
  rintro e w' ⟨rfl, rfl⟩
  clear hbig
  go_wp2_with fail
  refine (drawLate_draw w w.heap.size a0 len0 cap0 HC.out (Nat.le_refl _)).mono ?_
  rintro e w1 ⟨up, ep, sq, a, n, cap, l, y, rfl, hr, hy0, hy1, hb⟩
  obtain ⟨ho, hn, hnl, he0, he1⟩ := hr
  have HL := Lib.hid (Below.refl w.heap.size w)
  have HNL := Lib.hid hnl
  clear hnl
  have HA := Lib.hid (W4.new ho hb.size up ep sq)
  replace HL := Lib.hid (low_after HL.out hb)
  replace HL := Lib.hid (low_alloc HL.out (.cells #[.bool up, .int .i64 ep, .int .i64 sq, .slice a n cap] 26))
  clear ho hb
  obtain ⟨c0, c1, c2, c3, cl⟩ := HA.out.cells
  go_wp2_with fail
  refine (late_any _ a n cap up ep sq l y HA.out.is (by omega)).mono ?_
  rintro e w2 ⟨⟨a1, cap1, ai1, ci1, rfl, ho, hi⟩, hb⟩
  obtain ⟨S1, hS1⟩ : ∃ x, x = latL up ep sq l y := ⟨_, rfl⟩
  obtain ⟨m1, hm1⟩ : ∃ x, x = S1.length := ⟨_, rfl⟩
  obtain ⟨I1, hI1⟩ : ∃ x, x = latI up ep sq l y := ⟨_, rfl⟩
  obtain ⟨i1, hi1⟩ : ∃ x, x = I1.length := ⟨_, rfl⟩
  rw [← hS1, ← hm1] at ho ⊢
  rw [← hI1, ← hi1] at hi ⊢
  have KS1 := Lib.hid hS1
  have Km1 := Lib.hid hm1
  have KI1 := Lib.hid hI1
  have Ki1 := Lib.hid hi1
  clear hS1 hm1 hI1 hi1
  have HB := Lib.hid (W4.new ho hb.size up ep sq)
  have HIB := Lib.hid (Ib.new hi (.cells #[.bool up, .int .i64 ep, .int .i64 sq, .slice a1 m1 cap1] 26))
  replace HA := Lib.hid (HA.out.below hb)
  replace HL := Lib.hid (low_after HL.out hb)
  replace HA := Lib.hid (HA.out.below (bOne _ (.cells #[.bool up, .int .i64 ep, .int .i64 sq, .slice a1 m1 cap1] 26)))
  replace HL := Lib.hid (low_alloc HL.out (.cells #[.bool up, .int .i64 ep, .int .i64 sq, .slice a1 m1 cap1] 26))
  clear ho hi hb
  have hm1 : m1 ≤ 9 := by rw [Km1.out, KS1.out]; exact Nat.le_trans (latL_len _ _ _ _ _) (by have := HNL.out; omega)
  have hi1 : i1 ≤ 9 := by rw [Ki1.out, KI1.out]; exact Nat.le_trans (latI_len _ _ _ _ _) (by have := HNL.out; omega)
  clear c0 c1 c2 c3 cl
  obtain ⟨c0, c1, c2, c3, cl⟩ := HA.out.cells
  go_wp2_with fail
  refine (specLate_any _ a n cap up ep sq l y HA.out.is (by omega) HA.out.own.nilcap).mono ?_
  rintro e w3 ⟨⟨a3, cap3, ai3, ci3, rfl, ho, hi⟩, hb⟩
  rw [← KS1.out, ← Km1.out] at ho ⊢
  rw [← KI1.out, ← Ki1.out] at hi ⊢
  have HD := Lib.hid (W4.new ho hb.size up ep sq)
  have HID := Lib.hid (Ib.new hi (.cells #[.bool up, .int .i64 ep, .int .i64 sq, .slice a3 m1 cap3] 26))
  replace HA := Lib.hid (HA.out.below hb)
  replace HB := Lib.hid (HB.out.below hb)
  replace HIB := Lib.hid (HIB.out.below hb)
  replace HL := Lib.hid (low_after HL.out hb)
  replace HA := Lib.hid (HA.out.below (bOne _ (.cells #[.bool up, .int .i64 ep, .int .i64 sq, .slice a3 m1 cap3] 26)))
  replace HB := Lib.hid (HB.out.below (bOne _ (.cells #[.bool up, .int .i64 ep, .int .i64 sq, .slice a3 m1 cap3] 26)))
  replace HIB := Lib.hid (HIB.out.below (bOne _ (.cells #[.bool up, .int .i64 ep, .int .i64 sq, .slice a3 m1 cap3] 26)))
  replace HL := Lib.hid (low_alloc HL.out (.cells #[.bool up, .int .i64 ep, .int .i64 sq, .slice a3 m1 cap3] 26))
  clear ho hi hb
  clear c0 c1 c2 c3 cl
  go_wp2_with fail
  refine (drawForget_draw _ w.heap.size a0 len0 cap0 (HC.out.below HL.out) HL.out.size).mono ?_
  rintro e w4 ⟨up4, ep4, sq4, a4, n4, cap4, l4, y4, rfl, hr, hy2, hy3, hb⟩
  obtain ⟨ho, hn4, hnl, hf0, hf1⟩ := hr
  have HNL4 := Lib.hid hnl
  clear hnl
  have HE := Lib.hid (W4.new ho hb.size up4 ep4 sq4)
  replace HA := Lib.hid (HA.out.below hb)
  replace HB := Lib.hid (HB.out.below hb)
  replace HIB := Lib.hid (HIB.out.below hb)
  replace HD := Lib.hid (HD.out.below hb)
  replace HID := Lib.hid (HID.out.below hb)
  replace HL := Lib.hid (low_after HL.out hb)
  replace HA := Lib.hid (HA.out.below (bOne _ (.cells #[.bool up4, .int .i64 ep4, .int .i64 sq4, .slice a4 n4 cap4] 26)))
  replace HB := Lib.hid (HB.out.below (bOne _ (.cells #[.bool up4, .int .i64 ep4, .int .i64 sq4, .slice a4 n4 cap4] 26)))
  replace HIB := Lib.hid (HIB.out.below (bOne _ (.cells #[.bool up4, .int .i64 ep4, .int .i64 sq4, .slice a4 n4 cap4] 26)))
  replace HD := Lib.hid (HD.out.below (bOne _ (.cells #[.bool up4, .int .i64 ep4, .int .i64 sq4, .slice a4 n4 cap4] 26)))
  replace HID := Lib.hid (HID.out.below (bOne _ (.cells #[.bool up4, .int .i64 ep4, .int .i64 sq4, .slice a4 n4 cap4] 26)))
  replace HL := Lib.hid (low_alloc HL.out (.cells #[.bool up4, .int .i64 ep4, .int .i64 sq4, .slice a4 n4 cap4] 26))
  clear ho hb
  go_upto_region 7 with fail
  obtain ⟨V, hV⟩ : ∃ V, V = w4.alloc (.cells #[.bool up4, .int .i64 ep4, .int .i64 sq4, .slice a4 n4 cap4] 26) := ⟨_, rfl⟩
  rw [← hV] at HA HB HIB HD HID HE HL ⊢
  clear hV
  have HKS := Lib.hid (fun w' (h : Below V.heap.size V w') => show Below V.heap.size V w' ∧ w'.cell? ⟨w2.heap.size, 0, none⟩ = some (.bool up) ∧ w'.cell? ⟨w2.heap.size, 1, none⟩ = some (.int .i64 ep) ∧ w'.cell? ⟨w2.heap.size, 2, none⟩ = some (.int .i64 sq) ∧ w'.cell? ⟨w2.heap.size, 3, none⟩ = some (.slice a1 m1 cap1) ∧ w'.cell? ⟨w3.heap.size, 0, none⟩ = some (.bool up) ∧ w'.cell? ⟨w3.heap.size, 1, none⟩ = some (.int .i64 ep) ∧ w'.cell? ⟨w3.heap.size, 2, none⟩ = some (.int .i64 sq) ∧ w'.cell? ⟨w3.heap.size, 3, none⟩ = some (.slice a3 m1 cap3) ∧ w'.cell? ⟨w4.heap.size, 0, none⟩ = some (.bool up4) ∧ w'.cell? ⟨w4.heap.size, 1, none⟩ = some (.int .i64 ep4) ∧ w'.cell? ⟨w4.heap.size, 2, none⟩ = some (.int .i64 sq4) ∧ w'.cell? ⟨w4.heap.size, 3, none⟩ = some (.slice a4 n4 cap4) from ⟨h, (HB.out.box.below h).c0, (HB.out.box.below h).c1, (HB.out.box.below h).c2, (HB.out.box.below h).c3, (HD.out.box.below h).c0, (HD.out.box.below h).c1, (HD.out.box.below h).c2, (HD.out.box.below h).c3, (HE.out.box.below h).c0, (HE.out.box.below h).c1, (HE.out.box.below h).c2, (HE.out.box.below h).c3⟩)
  have HD0 := Lib.hid (show Below V.heap.size V V.drew from below_drew' (Below.refl _ _))
  go_region_held3 (fun w' => Below V.heap.size V w' ∧ w'.cell? ⟨w2.heap.size, 0, none⟩ = some (.bool up) ∧ w'.cell? ⟨w2.heap.size, 1, none⟩ = some (.int .i64 ep) ∧ w'.cell? ⟨w2.heap.size, 2, none⟩ = some (.int .i64 sq) ∧ w'.cell? ⟨w2.heap.size, 3, none⟩ = some (.slice a1 m1 cap1) ∧ w'.cell? ⟨w3.heap.size, 0, none⟩ = some (.bool up) ∧ w'.cell? ⟨w3.heap.size, 1, none⟩ = some (.int .i64 ep) ∧ w'.cell? ⟨w3.heap.size, 2, none⟩ = some (.int .i64 sq) ∧ w'.cell? ⟨w3.heap.size, 3, none⟩ = some (.slice a3 m1 cap3) ∧ w'.cell? ⟨w4.heap.size, 0, none⟩ = some (.bool up4) ∧ w'.cell? ⟨w4.heap.size, 1, none⟩ = some (.int .i64 ep4) ∧ w'.cell? ⟨w4.heap.size, 2, none⟩ = some (.int .i64 sq4) ∧ w'.cell? ⟨w4.heap.size, 3, none⟩ = some (.slice a4 n4 cap4))
    (first
      | exact HKS.out _ HD0.out
      | exact HKS.out _ HL0.out
      | exact HKS.out _ HL1.out
      | exact HKS.out _ HL2.out
      | exact HKS.out _ HL3.out
      | exact HKS.out _ HL4.out)
    (first
      | (go_at_call 20; with_reducible refine (sameLink_yes _ _ a1 a3 m1 cap1 cap3 up ep sq S1 (HB.out.below (‹Below V.heap.size V _ ∧ _›).1).is (HD.out.below (‹Below V.heap.size V _ ∧ _›).1).is (by omega) (Nat.le_refl _)).mono ?_; rintro e w5 ⟨rfl, hb⟩; have HL0 := Lib.hid (low_after ((‹Below V.heap.size V _ ∧ _›).1) hb); clear hb)
      | (go_at_call 32; refine (sameInts_yes _ _ ai1 ai3 i1 ci1 ci3 I1 (HIB.out.below (‹Below V.heap.size V _ ∧ _›).1).is (HID.out.below (‹Below V.heap.size V _ ∧ _›).1).is (by omega) (Nat.le_refl _)).mono ?_; rintro e w6 ⟨rfl, hb⟩; have HL1 := Lib.hid (low_after ((‹Below V.heap.size V _ ∧ _›).1) hb); clear hb)
      | (go_at_call 24; refine (forget_any _ a4 n4 cap4 up4 ep4 sq4 l4 y4 (HE.out.below (‹Below V.heap.size V _ ∧ _›).1).is (by omega)).mono ?_; rintro e w11 ⟨⟨a11, cap11, rfl, ho11⟩, hb⟩; have HL2 := Lib.hid (low_after ((‹Below V.heap.size V _ ∧ _›).1) hb); have HO11 := Lib.hid ho11; clear ho11; clear hb)
      | (go_at_call 25; refine (specForget_any _ a4 n4 cap4 up4 ep4 sq4 l4 y4 (HE.out.below (‹Below V.heap.size V _ ∧ _›).1).is (by omega) (HE.out.below (‹Below V.heap.size V _ ∧ _›).1).own.nilcap).mono ?_; rintro e w12 ⟨⟨a12, cap12, rfl, ho12⟩, hb⟩; have HL3 := Lib.hid (low_after ((‹Below V.heap.size V _ ∧ _›).1) hb); have HO12 := Lib.hid ho12; have HO13 := Lib.hid (HO11.out.below hb); clear ho12; clear hb)
      | (go_at_call 20; with_reducible refine (sameLink_yes _ _ a11 a12 _ cap11 cap12 up4 ep4 sq4 (fgtL up4 ep4 sq4 l4 y4) HO13.out.isN HO12.out.isN (Nat.le_trans (fgtL_len _ _ _ _ _) (by have := HNL4.out; omega)) (Nat.le_refl _)).mono ?_; rintro e w13 ⟨rfl, hb⟩; have HL4 := Lib.hid (low_after ((‹Below V.heap.size V _ ∧ _›).1) hb); clear hb))
  clear HD HID HE HKS HD0
  have hb := HL4.out
  replace HA := Lib.hid (HA.out.below hb)
  replace HB := Lib.hid (HB.out.below hb)
  replace HIB := Lib.hid (HIB.out.below hb)
  replace HL := Lib.hid (low_after HL.out hb)
  clear hb HL0 HL1 HL2 HL3 HL4 HO11 HO12 HO13
  obtain ⟨c0, c1, c2, c3, cl⟩ := HA.out.cells
  go_wp2_with fail
  refine (specLinkOk_any _ a n cap up ep sq l HA.out.is).mono ?_
  rintro e w14 ⟨rfl, hb⟩
  clear c0 c1 c2 c3 cl
  replace HA := Lib.hid (HA.out.below hb)
  replace HB := Lib.hid (HB.out.below hb)
  replace HIB := Lib.hid (HIB.out.below hb)
  replace HL := Lib.hid (low_after HL.out hb)
  clear hb
  obtain ⟨c0, c1, c2, c3, cl⟩ := HA.out.cells
  obtain ⟨d0, d1, d2, d3, dl⟩ := HB.out.cells
  cases hk : lokB up ep sq l with
  | false =>
    obtain rfl : S1 = l := by rw [KS1.out]; unfold latL; rw [hk]; rfl
    obtain rfl : n = m1 := by rw [HNL.out, Km1.out]
    have hI0 : I1 = [] := by rw [KI1.out]; unfold latI; rw [hk]; rfl
    obtain rfl : i1 = 0 := by rw [Ki1.out, hI0]; rfl
    clear hk hI0 KS1 KI1
    go_wp2_with fail
    refine (sameLink_yes _ _ a1 a n cap1 cap up ep sq S1 HB.out.is HA.out.is (by omega) (Nat.le_refl _)).mono ?_
    rintro e w15 ⟨rfl, hb⟩
    go_wp2_with fail
    go_ret
    exact ⟨rfl, low_after HL.out hb⟩
  | true =>
    have hok := lokB_iff.1 hk
    have HOK := Lib.hid hok
    have HST := Lib.hid (show S1 = stayL (isU y) l by rw [KS1.out]; unfold latL; rw [hk]; rfl)
    have HIT := Lib.hid (show I1 = idsL (goneL (isU y) l) by rw [KI1.out]; unfold latI; rw [hk]; rfl)
    have HAT := Lib.hid (show ∀ (j : Nat) (h : j < S1.length), y < S1[j].2.2 by have he := HST.out; subst he; exact fun j h => stayU_at h)
    have HNM := Lib.hid (show m1 + i1 = n by
      have h1 := part_len (isU y) l
      rw [HNL.out, Km1.out, Ki1.out, HST.out, HIT.out]
      simpa [idsL] using h1)
    have HOK2 := Lib.hid (show lokB up ep sq S1 = true by rw [HST.out]; exact lokB_true (hok.sub (stayL_sub _ _)))
    have HEND := Lib.hid (show outL I1 l = S1 by rw [HST.out, HIT.out]; exact outL_end hok.pw _)
    clear hk hok
    go_wp2_with fail
    go_loop [11] (fun i => ∃ j : Nat, j ≤ m1 ∧ i = .int .i64 j) (fun i => m1 - (intOf i).toNat)
    case atStart => exact ⟨0, by omega, rfl⟩
    case round =>
      obtain ⟨j, hj, rfl⟩ := hrel
      by_cases hlt : (j : Int) < (m1 : Int)
      · have hjl : j < S1.length := by have := Km1.out; omega
        obtain ⟨bb, off, rfl, hbw, q0, q1, q2⟩ := HB.out.is.cell j hjl
        have hat := HAT.out j hjl
        obtain ⟨z, hz⟩ : ∃ z, z = S1[j].2.2 := ⟨_, rfl⟩
        rw [← hz] at q2 hat
        have hle : decide (z ≤ y) = false := by simp; omega
        clear hz q0 q1 hat
        go_wp2_with fail
        go_round
        case rel => exact ⟨j + 1, by omega, by go_num⟩
        case measure => simp [intOf]; omega
      · obtain rfl : m1 = j := by omega
        clear hlt
        go_wp2_with fail
        have HK0 := Lib.hid (H4.new HA.out.own HL.out.size up ep sq)
        have HLV := Lib.hid (bOne w14 (.cells #[.bool up, .int .i64 ep, .int .i64 sq, .slice a n cap] 26))
        obtain ⟨W1, hW1⟩ : ∃ W, W = w14.alloc (.cells #[.bool up, .int .i64 ep, .int .i64 sq, .slice a n cap] 26) := ⟨_, rfl⟩
        rw [← hW1] at HK0 HLV ⊢
        clear hW1 c0 c1 c2 c3 cl d0 d1 d2 d3 dl
        obtain ⟨b12, hb12⟩ : ∃ b, b = w14.heap.size := ⟨_, rfl⟩
        rw [← hb12] at HK0
        have HB12 := Lib.hid hb12
        rw [← hb12]
        clear hb12
        go_loopw [13] (fun i wr => ∃ (j : Nat) (ak : Option Addr) (mk ck : Nat), j ≤ i1 ∧ i = .int .i64 j ∧ Hid (mk = (outL (I1.take j) l).length) ∧ Hid (H4 wr b12 w.heap.size up ep sq (.slice ak mk ck) (outL (I1.take j) l)) ∧ Hid (Below w14.heap.size w14 wr)) (fun i _ => i1 - (intOf i).toNat)
        case atStart => exact ⟨0, a, n, cap, by omega, rfl, Lib.hid (by rw [List.take_zero, outL_nil]; exact HNL.out), by rw [List.take_zero, outL_nil]; exact HK0, HLV⟩
        case round =>
          obtain ⟨j, ak, mk, ck, hj, rfl, HMK, HK, HLW⟩ := hrel
          by_cases hlt : (j : Int) < (i1 : Int)
          · have hjl : j < I1.length := by have := Ki1.out; omega
            obtain ⟨bb, off, rfl, hbw, q0⟩ := (HIB.out.below HLW.out).is.cell j hjl
            have hst := fgt_step HOK.out I1 j hjl
            obtain ⟨z, hz⟩ : ∃ z, z = I1[j] := ⟨_, rfl⟩
            rw [← hz] at q0 hst
            have HST2 := Lib.hid hst
            clear hz hst
            obtain ⟨⟨k0, k1, k2, k3⟩, k4, k5, k6⟩ := HK.out.cells
            have hfr := HK.out.fro
            have f0 := hfr 0
            have f1 := hfr 1
            clear hfr
            have hml : mk ≤ 9 := by rw [HMK.out]; exact Nat.le_trans (outL_sub _ _).length_le (by have := HNL.out; omega)
            have HD := Lib.hid (show Below wr.heap.size wr wr.drew from below_drew' (Below.refl _ _))
            go_upto_region 20 with fail
            refine Rk.wp_region_K (k := 6) (S := fun w' => w'.cell? ⟨b12, 0, none⟩ = some (.bool up) ∧ w'.cell? ⟨b12, 1, none⟩ = some (.int .i64 ep) ∧ w'.cell? ⟨b12, 2, none⟩ = some (.int .i64 sq) ∧ w'.cell? ⟨b12, 3, none⟩ = some (.slice ak mk ck) ∧ w'.cell? ⟨bb, off + j, none⟩ = some (.int .i64 z)) (by kernel_rfl) ⟨k0, k1, k2, k3, q0⟩ (fun hHeld => ?_)
            refine Rk.wpAnyK_take (i := 0) (oi := { dst := some _, op := _, type := _, pos := _, after := _, guard := _ }) (v := ?_) rfl (by kernel_rfl) (by kernel_rfl) (by kernel_rfl) (by kernel_rfl) (by kernel_rfl) (fun _ _ _ h => h) ?_ (by assumption) ?_
            rotate_left 1
            focus (refine Or.inl ⟨by rfl, ?_⟩; intro wq hSw; obtain ⟨s0, s1, s2, s3, s4⟩ := hSw; go_simp; try with_reducible rfl)
            try simp only [Act.put, List.setIfInBounds_toArray, List.set_cons_zero, List.set_cons_succ]
            refine Rk.wpAnyK_take (i := 1) (oi := { dst := some _, op := _, type := _, pos := _, after := _, guard := _ }) (v := ?_) rfl (by kernel_rfl) (by kernel_rfl) (by kernel_rfl) (by kernel_rfl) (by kernel_rfl) (fun _ _ _ h => h) ?_ (by assumption) ?_
            rotate_left 1
            focus (refine Or.inl ⟨by rfl, ?_⟩; intro wq hSw; go_simp; try with_reducible rfl)
            try simp only [Act.put, List.setIfInBounds_toArray, List.set_cons_zero, List.set_cons_succ]
            refine Rk.wpAnyK_take (i := 2) (oi := { dst := some _, op := _, type := _, pos := _, after := _, guard := _ }) (v := ?_) rfl (by kernel_rfl) (by kernel_rfl) (by kernel_rfl) (by kernel_rfl) (by kernel_rfl) (fun _ _ _ h => h) ?_ (by assumption) ?_
            rotate_left 1
            focus (refine Or.inl ⟨by rfl, ?_⟩; intro wq hSw; go_simp; try with_reducible rfl)
            try simp only [Act.put, List.setIfInBounds_toArray, List.set_cons_zero, List.set_cons_succ]
            refine Rk.wpAnyK_take (i := 3) (oi := { dst := some _, op := _, type := _, pos := _, after := _, guard := _ }) (v := ?_) rfl (by kernel_rfl) (by kernel_rfl) (by kernel_rfl) (by kernel_rfl) (by kernel_rfl) (fun _ _ _ h => h) ?_ (by assumption) ?_
            rotate_left 1
            focus (refine Or.inl ⟨by rfl, ?_⟩; intro wq hSw; go_simp; try with_reducible rfl)
            try simp only [Act.put, List.setIfInBounds_toArray, List.set_cons_zero, List.set_cons_succ]
            refine Rk.wpAnyK_take (i := 4) (oi := { dst := some _, op := _, type := _, pos := _, after := _, guard := _ }) (v := ?_) rfl (by kernel_rfl) (by kernel_rfl) (by kernel_rfl) (by kernel_rfl) (by kernel_rfl) (fun _ _ _ h => h) ?_ (by assumption) ?_
            rotate_left 1
            focus (refine Or.inl ⟨by rfl, ?_⟩; intro wq hSw; obtain ⟨s0, s1, s2, s3, s4⟩ := hSw; go_simp; try with_reducible rfl)
            try simp only [Act.put, List.setIfInBounds_toArray, List.set_cons_zero, List.set_cons_succ]
            refine Rk.wpAnyK_ready (rs := [5]) (by kernel_rfl) (by simp) ?_
            refine Rk.AllReadyK.cons rfl (fun KK hKK => ?_) Rk.AllReadyK.nil
            go_simp
            refine (forget_any _ ak mk ck up ep sq (outL (I1.take j) l) z (HK.out.below HD.out).own.isN (by omega)).mono ?_
            rintro e w16 ⟨⟨a16, c16, rfl, ho⟩, hb⟩
            rw [HST2.out] at ho ⊢
            have HKb := Lib.hid ((HK.out.below HD.out).below hb)
            have HKP := Lib.hid ((HK.out.below HD.out).put (up' := up) (ep' := ep) (sq' := sq) hb ho)
            have HLP := Lib.hid (low_put4 (low_after HLW.out (low_after HD.out hb)) (Nat.le_of_eq HB12.out.symm) (.bool up) (.int .i64 ep) (.int .i64 sq) (.slice a16 (outL (I1.take (j + 1)) l).length c16))
            have q9 := below_keep (low_after HD.out hb) (Nat.le_refl _) (show bb < wr.heap.size by have := HLW.out.size; first | omega | (have := (HIB.out.below HLW.out).is; exact hbw)) q0
            obtain ⟨⟨p0, p1, p2, p3⟩, p4, p5, p6⟩ := HKb.out.cells
            have hfr := HKb.out.fro
            have f2 := hfr 0
            have f3 := hfr 1
            dsimp only
            refine hKK.out _ _ ⟨p0, p1, p2, p3, q9⟩ (fun hHeld => ?_)
            clear hKK k0 k1 k2 k3 k4 k5 k6 f0 f1 hfr
            try simp only [Act.put, List.setIfInBounds_toArray, List.set_cons_zero, List.set_cons_succ]
            refine Rk.wpAnyK_ready (rs := [6]) (by kernel_rfl) (by simp) ?_
            refine Rk.AllReadyK.last rfl (fun KK hKK => ?_)
            go_simp
            refine hKK.out _ _ ?_
            clear hKK p0 p1 p2 p3 p4 p5 p6 f2 f3 q0 q9
            refine Rk.wpAnyK_done (by kernel_rfl) ?_ _
            go_wp2_with fail
            go_roundw
            case rel => exact ⟨j + 1, a16, _, c16, by omega, by go_num, Lib.hid rfl, HKP, HLP⟩
            case measure => simp [intOf]; omega
          · obtain rfl : i1 = j := by omega
            have hfull : I1.take i1 = I1 := by rw [Ki1.out]; exact List.take_length
            have hS : outL (I1.take i1) l = S1 := by rw [hfull]; exact HEND.out
            rw [hS] at HK HMK
            obtain rfl : m1 = mk := by rw [Km1.out, HMK.out]
            clear hfull hS hlt
            replace HA := Lib.hid (HA.out.below HLW.out)
            replace HB := Lib.hid (HB.out.below HLW.out)
            replace HL := Lib.hid (low_after HL.out HLW.out)
            obtain ⟨c0, c1, c2, c3, cl⟩ := HA.out.cells
            obtain ⟨d0, d1, d2, d3, dl⟩ := HB.out.cells
            obtain ⟨⟨k0, k1, k2, k3⟩, k4, k5, k6⟩ := HK.out.cells
            go_wp2_with fail
            refine (linkOk_any _ a1 m1 cap1 up ep sq S1 HB.out.is).mono ?_
            rintro e w17 ⟨rfl, hb⟩
            rw [HOK2.out]
            clear c0 c1 c2 c3 cl d0 d1 d2 d3 dl k0 k1 k2 k3 k4 k5 k6
            replace HA := Lib.hid (HA.out.below hb)
            replace HB := Lib.hid (HB.out.below hb)
            replace HK := Lib.hid (HK.out.below hb)
            replace HL := Lib.hid (low_after HL.out hb)
            clear hb
            obtain ⟨c0, c1, c2, c3, cl⟩ := HA.out.cells
            obtain ⟨d0, d1, d2, d3, dl⟩ := HB.out.cells
            obtain ⟨⟨k0, k1, k2, k3⟩, k4, k5, k6⟩ := HK.out.cells
            have hnm := HNM.out
            have hsum : ((m1 : Int) + (i1 : Int) == (n : Int)) = true := by simp; omega
            have hws : IntKind.i64.wrap ((m1 : Int) + (i1 : Int)) = (m1 : Int) + (i1 : Int) := IntWalk.i64_in _ (by omega)
            clear hnm
            go_wp2_with fail
            refine (sameLink_yes _ _ ak a1 m1 ck cap1 up ep sq S1 HK.out.own.isN HB.out.is (by omega) (Nat.le_refl _)).mono ?_
            rintro e w18 ⟨rfl, hb⟩
            go_wp2_with fail
            go_ret
            exact ⟨rfl, low_after HL.out hb⟩
end Go.Proofs.Ytjfhdelphfgojaa.Lnk
