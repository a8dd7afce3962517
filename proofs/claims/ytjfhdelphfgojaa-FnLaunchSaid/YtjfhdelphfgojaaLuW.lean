/-
  The walk of the law FnLaunch.
-/
import Derived.Test.YtjfhdelphfgojaaLmD
import Derived.Test.YtjfhdelphfgojaaLnA
import Derived.Test.YtjfhdelphfgojaaLxA
import Derived.Test.YtjfhdelphfgojaaLkD
import Derived.Test.YtjfhdelphfgojaaLkF
import Derived.Test.YtjfhdelphfgojaaLkG
import Derived.Test.YtjfhdelphfgojaaLkH
import Derived.Test.YtjfhdelphfgojaaLkI
import Derived.Test.YtjfhdelphfgojaaBig
import Derived.Deep.DeepCutAuto
import Derived.Deep.RegionHeld3
namespace Go.Proofs.Ytjfhdelphfgojaa.Lnk
open Go.RowKit Go.Proofs.Ytjfhdelphfgojaa.Kit Go.Proofs.Ytjfhdelphfgojaa.Draw
set_option linter.unusedVariables false
set_option linter.unusedSimpArgs false

set_option maxRecDepth 100000 in
set_option maxHeartbeats 4000000 in
theorem fnLaunch_walk (w : World) (a0 : Option Addr) (len0 cap0 : Nat) (zs : List Int) (hrow : IsRow .u8 w a0 len0 cap0 zs) :
    Calls Try.prog 3 #[.slice a0 len0 cap0] w fun e w' => e = .returned (.bool true) ∧ Below w.heap.size w w' := by
  have hcode := hrow.code
  have hle := hcode.le
  have HC := Lib.hid hcode
  have HLE := Lib.hid hle
  clear hrow hcode hle
  go_enter Try.func3, Try.ntmps3
  by_cases hbig : (1048576 : Int) < (len0 : Int)
  · go_wp2_with fail
    refine (big_yes _ a0 len0 cap0 HLE.out hbig).mono ?_
    rintro e w' ⟨rfl, rfl⟩
    go_wp2_with fail
    go_ret
    exact ⟨rfl, Below.refl _ _⟩
  go_wp2_with fail
  refine (big_no _ a0 len0 cap0 HLE.out (by omega)).mono ?_
  rintro e w' ⟨rfl, rfl⟩
  clear hbig
  go_wp2_with fail
  refine (drawLaunch_draw w w.heap.size a0 len0 cap0 HC.out (Nat.le_refl _)).mono ?_
  rintro e w1 ⟨up, ep, sq, a, n, cap, l, x, y, rfl, hr, hb⟩
  obtain ⟨ho, hn, hnl, he0, he1⟩ := hr
  have HL := Lib.hid (Below.refl w.heap.size w)
  have HNL := Lib.hid hnl
  clear hnl
  have HA := Lib.hid (W4.new ho hb.size up ep sq)
  replace HL := Lib.hid (low_after HL.out hb)
  replace HL := Lib.hid (low_alloc HL.out (.cells #[.bool up, .int .i64 ep, .int .i64 sq, .slice a n cap] 26))
  clear ho hb
  obtain ⟨c0, c1, c2, c3, cl⟩ := HA.out.cells
  go_wp2_with fail
  refine (launch_any _ a n cap up ep sq l x y HA.out.is (by omega) HA.out.own.lecap).mono ?_
  rintro e w2 ⟨⟨a2, cap2, rfl, ho⟩, hb⟩
  obtain ⟨S, hS⟩ : ∃ S, S = lauL up ep sq l x y := ⟨_, rfl⟩
  obtain ⟨m, hm⟩ : ∃ m, m = S.length := ⟨_, rfl⟩
  obtain ⟨q, hq⟩ : ∃ q, q = lauS up ep sq l x y := ⟨_, rfl⟩
  obtain ⟨I, hI⟩ : ∃ I, I = lauN up ep sq l x y := ⟨_, rfl⟩
  rw [← hS, ← hm] at ho ⊢
  rw [← hI, ← hq]
  have HS := Lib.hid hS
  have HM := Lib.hid hm
  have HI := Lib.hid hI
  have HQ := Lib.hid hq
  have hm9 : m ≤ 10 := by rw [hm, hS]; exact Nat.le_trans (lauL_len _ _ _ _ _ _) (by have := HNL.out; omega)
  clear hS hm hI hq
  clear c0 c1 c2 c3 cl
  have HB := Lib.hid (W4.new ho hb.size up ep q)
  replace HA := Lib.hid (HA.out.below hb)
  replace HL := Lib.hid (low_after HL.out hb)
  replace HA := Lib.hid (HA.out.below (bOne _ (.cells #[.bool up, .int .i64 ep, .int .i64 q, .slice a2 m cap2] 26)))
  replace HL := Lib.hid (low_alloc HL.out (.cells #[.bool up, .int .i64 ep, .int .i64 q, .slice a2 m cap2] 26))
  clear ho hb
  obtain ⟨c0, c1, c2, c3, cl⟩ := HA.out.cells
  go_wp2_with fail
  refine (specLaunch_any _ a n cap up ep sq l x y HA.out.is (by omega) HA.out.own.nilcap).mono ?_
  rintro e w3 ⟨⟨a3, cap3, rfl, ho⟩, hb⟩
  rw [← HS.out, ← HM.out] at ho ⊢
  rw [← HI.out, ← HQ.out]
  clear c0 c1 c2 c3 cl
  have HD := Lib.hid (W4.new ho hb.size up ep q)
  replace HA := Lib.hid (HA.out.below hb)
  replace HB := Lib.hid (HB.out.below hb)
  replace HL := Lib.hid (low_after HL.out hb)
  replace HA := Lib.hid (HA.out.below (bOne _ (.cells #[.bool up, .int .i64 ep, .int .i64 q, .slice a3 m cap3] 26)))
  replace HB := Lib.hid (HB.out.below (bOne _ (.cells #[.bool up, .int .i64 ep, .int .i64 q, .slice a3 m cap3] 26)))
  replace HL := Lib.hid (low_alloc HL.out (.cells #[.bool up, .int .i64 ep, .int .i64 q, .slice a3 m cap3] 26))
  clear ho hb
  have hII : (I != I) = false := by simp
  have hBB : (lokB up ep sq l != lokB up ep sq l) = false := by simp
  go_upto_region 6 with fail
  obtain ⟨V, hV⟩ : ∃ V, V = w3.alloc (.cells #[.bool up, .int .i64 ep, .int .i64 q, .slice a3 m cap3] 26) := ⟨_, rfl⟩
  rw [← hV] at HA HB HD HL ⊢
  clear hV
  have HKS := Lib.hid (fun w' (h : Below V.heap.size V w') => show Below V.heap.size V w' ∧ w'.cell? ⟨w1.heap.size, 0, none⟩ = some (.bool up) ∧ w'.cell? ⟨w1.heap.size, 1, none⟩ = some (.int .i64 ep) ∧ w'.cell? ⟨w1.heap.size, 2, none⟩ = some (.int .i64 sq) ∧ w'.cell? ⟨w1.heap.size, 3, none⟩ = some (.slice a n cap) ∧ w'.cell? ⟨w2.heap.size, 0, none⟩ = some (.bool up) ∧ w'.cell? ⟨w2.heap.size, 1, none⟩ = some (.int .i64 ep) ∧ w'.cell? ⟨w2.heap.size, 2, none⟩ = some (.int .i64 q) ∧ w'.cell? ⟨w2.heap.size, 3, none⟩ = some (.slice a2 m cap2) ∧ w'.cell? ⟨w3.heap.size, 0, none⟩ = some (.bool up) ∧ w'.cell? ⟨w3.heap.size, 1, none⟩ = some (.int .i64 ep) ∧ w'.cell? ⟨w3.heap.size, 2, none⟩ = some (.int .i64 q) ∧ w'.cell? ⟨w3.heap.size, 3, none⟩ = some (.slice a3 m cap3) from ⟨h, (HA.out.box.below h).c0, (HA.out.box.below h).c1, (HA.out.box.below h).c2, (HA.out.box.below h).c3, (HB.out.box.below h).c0, (HB.out.box.below h).c1, (HB.out.box.below h).c2, (HB.out.box.below h).c3, (HD.out.box.below h).c0, (HD.out.box.below h).c1, (HD.out.box.below h).c2, (HD.out.box.below h).c3⟩)
  have HD0 := Lib.hid (show Below V.heap.size V V.drew from below_drew' (Below.refl _ _))
  go_region_held3 (fun w' => Below V.heap.size V w' ∧ w'.cell? ⟨w1.heap.size, 0, none⟩ = some (.bool up) ∧ w'.cell? ⟨w1.heap.size, 1, none⟩ = some (.int .i64 ep) ∧ w'.cell? ⟨w1.heap.size, 2, none⟩ = some (.int .i64 sq) ∧ w'.cell? ⟨w1.heap.size, 3, none⟩ = some (.slice a n cap) ∧ w'.cell? ⟨w2.heap.size, 0, none⟩ = some (.bool up) ∧ w'.cell? ⟨w2.heap.size, 1, none⟩ = some (.int .i64 ep) ∧ w'.cell? ⟨w2.heap.size, 2, none⟩ = some (.int .i64 q) ∧ w'.cell? ⟨w2.heap.size, 3, none⟩ = some (.slice a2 m cap2) ∧ w'.cell? ⟨w3.heap.size, 0, none⟩ = some (.bool up) ∧ w'.cell? ⟨w3.heap.size, 1, none⟩ = some (.int .i64 ep) ∧ w'.cell? ⟨w3.heap.size, 2, none⟩ = some (.int .i64 q) ∧ w'.cell? ⟨w3.heap.size, 3, none⟩ = some (.slice a3 m cap3))
    (first
      | exact HKS.out _ HD0.out
      | exact HKS.out _ HL0.out
      | exact HKS.out _ HL1.out
      | exact HKS.out _ HL2.out)
    (first
      | (go_at_call 20; refine (sameLink_yes _ _ a2 a3 m cap2 cap3 up ep q S (HB.out.below (‹Below V.heap.size V _ ∧ _›).1).is (HD.out.below (‹Below V.heap.size V _ ∧ _›).1).is (by omega) (Nat.le_refl _)).mono ?_; rintro e w4 ⟨rfl, hb⟩; have HL0 := Lib.hid (low_after ((‹Below V.heap.size V _ ∧ _›).1) hb); clear hb)
      | (go_at_call 21; refine (linkOk_any _ a n cap up ep sq l (HA.out.below (‹Below V.heap.size V _ ∧ _›).1).is).mono ?_; rintro e w5 ⟨rfl, hb⟩; have HL1 := Lib.hid (low_after ((‹Below V.heap.size V _ ∧ _›).1) hb); clear hb)
      | (go_at_call 22; refine (specLinkOk_any _ a n cap up ep sq l (HA.out.below (‹Below V.heap.size V _ ∧ _›).1).is).mono ?_; rintro e w6 ⟨rfl, hb⟩; have HL2 := Lib.hid (low_after ((‹Below V.heap.size V _ ∧ _›).1) hb); clear hb))
  clear HD HKS HD0
  have hb := HL2.out
  replace HA := Lib.hid (HA.out.below hb)
  replace HB := Lib.hid (HB.out.below hb)
  replace HL := Lib.hid (low_after HL.out hb)
  clear hb HL0 HL1 HL2
  obtain ⟨c0, c1, c2, c3, cl⟩ := HA.out.cells
  obtain ⟨d0, d1, d2, d3, dl⟩ := HB.out.cells
  cases hk : lauB up ep sq l x y with
  | false =>
    obtain rfl : S = l := by rw [HS.out]; unfold lauL; rw [hk]; rfl
    obtain rfl : n = m := by rw [HNL.out, HM.out]
    obtain rfl : q = sq := by rw [HQ.out]; unfold lauS; rw [hk]; rfl
    obtain rfl : I = 0 := by rw [HI.out]; unfold lauN; rw [hk]; rfl
    clear hk HS
    go_wp2_with fail
    refine (sameLink_yes _ _ a2 a n cap2 cap up ep q S HB.out.is HA.out.is (by omega) (Nat.le_refl _)).mono ?_
    rintro e w7 ⟨rfl, hb⟩
    go_wp2_with fail
    go_ret
    exact ⟨rfl, low_after HL.out hb⟩
  | true =>
    obtain ⟨hok, hok2⟩ := lau_yes hk
    have hS2 : S = l ++ [(sq + 1, x, y)] := by rw [HS.out]; unfold lauL; rw [hk]; rfl
    have hq : q = sq + 1 := by rw [HQ.out]; unfold lauS; rw [hk]; rfl
    obtain rfl : q = I := by rw [HI.out, hq]; unfold lauN; rw [hk]; rfl
    have hs0 := hok.s0
    have hs1 := hok.s1
    have HK := Lib.hid hk
    have hb0 : (q == 0) = false := by simp; omega
    have HOK := Lib.hid (show lokB up ep q S = true by rw [hS2, hq]; exact lokB_true hok2)
    have HAL := Lib.hid (show ansL up ep q S ep q = l by rw [hS2, hq]; exact lau_ansL hk)
    have HAI := Lib.hid (show ansI up ep q S ep q = x by rw [hS2, hq]; exact lau_ansI hk)
    clear HQ
    have HQ := Lib.hid hq
    clear hk hok hok2 hS2 HS HI hq
    go_wp2_with fail
    refine (answer_any _ a2 m cap2 up ep q S ep q HB.out.is (by omega)).mono ?_
    rintro e w7 ⟨⟨a7, cap7, rfl, ho⟩, hb⟩
    rw [HAL.out, ← HNL.out] at ho ⊢
    rw [HAI.out]
    clear c0 c1 c2 c3 cl d0 d1 d2 d3 dl
    replace HA := Lib.hid (HA.out.below hb)
    replace HB := Lib.hid (HB.out.below hb)
    replace HL := Lib.hid (low_after HL.out hb)
    have hbA := HA.out.box.lt
    have hbB := HB.out.box.lt
    have HN := Lib.hid (H4.new ho hb.size up ep q)
    replace HA := Lib.hid (HA.out.below (bOne _ (.cells #[.bool up, .int .i64 ep, .int .i64 q, .slice a7 n cap7] 26)))
    replace HB := Lib.hid (HB.out.below (bOne _ (.cells #[.bool up, .int .i64 ep, .int .i64 q, .slice a7 n cap7] 26)))
    replace HL := Lib.hid (low_alloc HL.out (.cells #[.bool up, .int .i64 ep, .int .i64 q, .slice a7 n cap7] 26))
    clear ho hb
    obtain ⟨⟨k0, k1, k2, k3⟩, k4, k5, k6⟩ := HN.out.cells
    obtain ⟨c0, c1, c2, c3, cl⟩ := HA.out.cells
    obtain ⟨d0, d1, d2, d3, dl⟩ := HB.out.cells
    go_wp2_with fail
    refine (answer_any _ a7 n cap7 up ep q l ep q HN.out.own.isN (by omega)).mono ?_
    rintro e w8 ⟨⟨a8, cap8, rfl, ho⟩, hb⟩
    obtain ⟨m8, hm8⟩ : ∃ m, m = (ansL up ep q l ep q).length := ⟨_, rfl⟩
    rw [← hm8]
    rw [show ansI up ep q l ep q = 0 by rw [HQ.out]; exact lau_again HK.out]
    clear ho hm8 k0 k1 k2 k3 k4 k5 k6
    clear c0 c1 c2 c3 cl d0 d1 d2 d3 dl
    replace HA := Lib.hid (HA.out.below hb)
    replace HB := Lib.hid (HB.out.below hb)
    replace HN := Lib.hid (HN.out.below hb)
    replace HL := Lib.hid (low_after HL.out hb)
    replace HA := Lib.hid (HA.out.below (bOne _ (.cells #[.bool up, .int .i64 ep, .int .i64 q, .slice a8 m8 cap8] 26)))
    replace HB := Lib.hid (HB.out.below (bOne _ (.cells #[.bool up, .int .i64 ep, .int .i64 q, .slice a8 m8 cap8] 26)))
    replace HN := Lib.hid (HN.out.below (bOne _ (.cells #[.bool up, .int .i64 ep, .int .i64 q, .slice a8 m8 cap8] 26)))
    replace HL := Lib.hid (low_alloc HL.out (.cells #[.bool up, .int .i64 ep, .int .i64 q, .slice a8 m8 cap8] 26))
    clear hb
    obtain ⟨⟨k0, k1, k2, k3⟩, k4, k5, k6⟩ := HN.out.cells
    obtain ⟨c0, c1, c2, c3, cl⟩ := HA.out.cells
    obtain ⟨d0, d1, d2, d3, dl⟩ := HB.out.cells
    go_upto_region 13 with fail
    have hse := setCell_grown (w8.alloc (.cells #[.bool up, .int .i64 ep, .int .i64 q, .slice a8 m8 cap8] 26)) w7.heap.size 2 (.int .i64 sq)
    replace HN := Lib.hid (HN.out.set2 sq)
    replace HA := Lib.hid (HA.out.mark_lo hse (fun j hj => by injection hj with hj; omega))
    replace HB := Lib.hid (HB.out.mark_lo hse (fun j hj => by injection hj with hj; omega))
    replace HL := Lib.hid (low_grown HL.out hse (fun j hj => by injection hj with hj; have := HA.out.lo; omega))
    clear hse k0 k1 k2 k3 k4 k5 k6
    clear c0 c1 c2 c3 cl d0 d1 d2 d3 dl
    obtain ⟨V2, hV2⟩ : ∃ V, V = (w8.alloc (.cells #[.bool up, .int .i64 ep, .int .i64 q, .slice a8 m8 cap8] 26)).setCell ⟨w7.heap.size, 2, none⟩ (.int .i64 sq) := ⟨_, rfl⟩
    rw [← hV2] at HA HB HN HL ⊢
    clear hV2
    have hqe : (q == q) = true := by simp
    have hxe : (x == x) = true := by simp
    have hwq : IntKind.i64.wrap (sq + 1) = q := by rw [HQ.out]; exact IntWalk.i64_in _ (by omega)
    have HKS := Lib.hid (fun w' (h : Below V2.heap.size V2 w') => show Below V2.heap.size V2 w' ∧ w'.cell? ⟨w2.heap.size, 0, none⟩ = some (.bool up) ∧ w'.cell? ⟨w2.heap.size, 1, none⟩ = some (.int .i64 ep) ∧ w'.cell? ⟨w2.heap.size, 2, none⟩ = some (.int .i64 q) ∧ w'.cell? ⟨w2.heap.size, 3, none⟩ = some (.slice a2 m cap2) ∧ w'.cell? ⟨w1.heap.size, 0, none⟩ = some (.bool up) ∧ w'.cell? ⟨w1.heap.size, 1, none⟩ = some (.int .i64 ep) ∧ w'.cell? ⟨w1.heap.size, 2, none⟩ = some (.int .i64 sq) ∧ w'.cell? ⟨w1.heap.size, 3, none⟩ = some (.slice a n cap) ∧ w'.cell? ⟨w7.heap.size, 0, none⟩ = some (.bool up) ∧ w'.cell? ⟨w7.heap.size, 1, none⟩ = some (.int .i64 ep) ∧ w'.cell? ⟨w7.heap.size, 2, none⟩ = some (.int .i64 sq) ∧ w'.cell? ⟨w7.heap.size, 3, none⟩ = some (.slice a7 n cap7) from ⟨h, (HB.out.box.below h).c0, (HB.out.box.below h).c1, (HB.out.box.below h).c2, (HB.out.box.below h).c3, (HA.out.box.below h).c0, (HA.out.box.below h).c1, (HA.out.box.below h).c2, (HA.out.box.below h).c3, (HN.out.box.below h).c0, (HN.out.box.below h).c1, (HN.out.box.below h).c2, (HN.out.box.below h).c3⟩)
    have HD0 := Lib.hid (show Below V2.heap.size V2 V2.drew from below_drew' (Below.refl _ _))
    go_region_held3 (fun w' => Below V2.heap.size V2 w' ∧ w'.cell? ⟨w2.heap.size, 0, none⟩ = some (.bool up) ∧ w'.cell? ⟨w2.heap.size, 1, none⟩ = some (.int .i64 ep) ∧ w'.cell? ⟨w2.heap.size, 2, none⟩ = some (.int .i64 q) ∧ w'.cell? ⟨w2.heap.size, 3, none⟩ = some (.slice a2 m cap2) ∧ w'.cell? ⟨w1.heap.size, 0, none⟩ = some (.bool up) ∧ w'.cell? ⟨w1.heap.size, 1, none⟩ = some (.int .i64 ep) ∧ w'.cell? ⟨w1.heap.size, 2, none⟩ = some (.int .i64 sq) ∧ w'.cell? ⟨w1.heap.size, 3, none⟩ = some (.slice a n cap) ∧ w'.cell? ⟨w7.heap.size, 0, none⟩ = some (.bool up) ∧ w'.cell? ⟨w7.heap.size, 1, none⟩ = some (.int .i64 ep) ∧ w'.cell? ⟨w7.heap.size, 2, none⟩ = some (.int .i64 sq) ∧ w'.cell? ⟨w7.heap.size, 3, none⟩ = some (.slice a7 n cap7))
      (first
        | exact HKS.out _ HD0.out
        | exact HKS.out _ HL0.out
        | exact HKS.out _ HL1.out
        | exact HKS.out _ HL2.out
        | exact HKS.out _ HL3.out
        | exact HKS.out _ HL4.out)
      (first
        | (go_at_call 21; refine (linkOk_any _ a2 m cap2 up ep q S (HB.out.below (‹Below V2.heap.size V2 _ ∧ _›).1).is).mono ?_; rintro e w9 ⟨rfl, hb⟩; rw [HOK.out]; have HL0 := Lib.hid (low_after ((‹Below V2.heap.size V2 _ ∧ _›).1) hb); clear hb)
        | (go_at_call 20; with_reducible refine (sameLink_yes _ _ a7 a n cap7 cap up ep sq l (HN.out.below (‹Below V2.heap.size V2 _ ∧ _›).1).own.isN (HA.out.below (‹Below V2.heap.size V2 _ ∧ _›).1).is (by omega) (Nat.le_refl _)).mono ?_; rintro e w10 ⟨rfl, hb⟩; have HL1 := Lib.hid (low_after ((‹Below V2.heap.size V2 _ ∧ _›).1) hb); clear hb)
        | (go_at_call 24; refine (forget_any _ a2 m cap2 up ep q S x (HB.out.below (‹Below V2.heap.size V2 _ ∧ _›).1).is (by omega)).mono ?_; rintro e w11 ⟨⟨a11, cap11, rfl, ho11⟩, hb⟩; have HL2 := Lib.hid (low_after ((‹Below V2.heap.size V2 _ ∧ _›).1) hb); have HO11 := Lib.hid ho11; clear ho11; clear hb)
        | (go_at_call 25; refine (specForget_any _ a2 m cap2 up ep q S x (HB.out.below (‹Below V2.heap.size V2 _ ∧ _›).1).is (by omega) (HB.out.below (‹Below V2.heap.size V2 _ ∧ _›).1).own.nilcap).mono ?_; rintro e w12 ⟨⟨a12, cap12, rfl, ho12⟩, hb⟩; have HL3 := Lib.hid (low_after ((‹Below V2.heap.size V2 _ ∧ _›).1) hb); have HO12 := Lib.hid ho12; have HO13 := Lib.hid (HO11.out.below hb); clear ho12; clear hb)
        | (go_at_call 20; with_reducible refine (sameLink_yes _ _ a11 a12 _ cap11 cap12 up ep q (fgtL up ep q S x) HO13.out.isN HO12.out.isN (Nat.le_trans (fgtL_len _ _ _ _ _) (by have := HM.out; omega)) (Nat.le_refl _)).mono ?_; rintro e w13 ⟨rfl, hb⟩; have HL4 := Lib.hid (low_after ((‹Below V2.heap.size V2 _ ∧ _›).1) hb); clear hb))
    go_wp2_with fail
    go_ret
    exact ⟨rfl, low_after HL.out HL4.out⟩
end Go.Proofs.Ytjfhdelphfgojaa.Lnk
