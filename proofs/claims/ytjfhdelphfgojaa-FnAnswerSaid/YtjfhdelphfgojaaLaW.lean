/-
  The walk of the law FnAnswer.
-/
import Derived.Test.YtjfhdelphfgojaaLmD
import Derived.Test.YtjfhdelphfgojaaLnA
import Derived.Test.YtjfhdelphfgojaaLxA
import Derived.Test.YtjfhdelphfgojaaLkF
import Derived.Test.YtjfhdelphfgojaaLkH
import Derived.Test.YtjfhdelphfgojaaLkI
import Derived.Test.YtjfhdelphfgojaaBig
import Derived.Deep.DeepCutAuto
import Derived.Deep.RegionHeld3
namespace Go.Proofs.Ytjfhdelphfgojaa.Lnk
open Go.RowKit Go.Proofs.Ytjfhdelphfgojaa.Kit Go.Proofs.Ytjfhdelphfgojaa.Draw
set_option linter.unusedVariables false
set_option linter.unusedSimpArgs false

set_option maxRecDepth 100000 in
set_option maxHeartbeats 4000000 in
theorem fnAnswer_walk (w : World) (a0 : Option Addr) (len0 cap0 : Nat) (zs : List Int) (hrow : IsRow .u8 w a0 len0 cap0 zs) :
    Calls Try.prog 4 #[.slice a0 len0 cap0] w fun e w' => e = .returned (.bool true) ∧ Below w.heap.size w w' := by
  have hcode := hrow.code
  have hle := hcode.le
  have HC := Lib.hid hcode
  have HLE := Lib.hid hle
  clear hrow hcode hle
  go_enter Try.func4, Try.ntmps4
  by_cases hbig : (1048576 : Int) < (len0 : Int)
  · go_wp2_with fail
    refine (big_yes _ a0 len0 cap0 HLE.out hbig).mono ?_
    rintro e w' ⟨rfl, rfl⟩
    go_wp2_with fail
    go_ret
    exact ⟨rfl, Below.refl _ _⟩
  go_wp2_with fail
  refine (big_no _ a0 len0 cap0 HLE.out (by omega)).mono ?_
  rintro e w' ⟨rfl, rfl⟩
  clear hbig
  go_wp2_with fail
  refine (drawAnswer_draw w w.heap.size a0 len0 cap0 HC.out (Nat.le_refl _)).mono ?_
  rintro e w1 ⟨up, ep, sq, a, n, cap, l, x, y, rfl, hr, hb⟩
  obtain ⟨ho, hn, hnl, he0, he1⟩ := hr
  have HL := Lib.hid (Below.refl w.heap.size w)
  have HNL := Lib.hid hnl
  clear hnl
  have HA := Lib.hid (W4.new ho hb.size up ep sq)
  replace HL := Lib.hid (low_after HL.out hb)
  replace HL := Lib.hid (low_alloc HL.out (.cells #[.bool up, .int .i64 ep, .int .i64 sq, .slice a n cap] 26))
  clear ho hb
  obtain ⟨c0, c1, c2, c3, cl⟩ := HA.out.cells
  go_wp2_with fail
  refine (answer_any _ a n cap up ep sq l x y HA.out.is (by omega)).mono ?_
  rintro e w2 ⟨⟨a2, cap2, rfl, ho⟩, hb⟩
  obtain ⟨S, hS⟩ : ∃ S, S = ansL up ep sq l x y := ⟨_, rfl⟩
  obtain ⟨m, hm⟩ : ∃ m, m = S.length := ⟨_, rfl⟩
  obtain ⟨I, hI⟩ : ∃ I, I = ansI up ep sq l x y := ⟨_, rfl⟩
  rw [← hS, ← hm] at ho ⊢
  rw [← hI]
  have HS := Lib.hid hS
  have HM := Lib.hid hm
  have HI := Lib.hid hI
  have hm9 : m ≤ 9 := by rw [hm, hS]; exact Nat.le_trans (ansL_len _ _ _ _ _ _) (by have := HNL.out; omega)
  clear hS hm hI
  clear c0 c1 c2 c3 cl
  have HB := Lib.hid (W4.new ho hb.size up ep sq)
  replace HA := Lib.hid (HA.out.below hb)
  replace HL := Lib.hid (low_after HL.out hb)
  replace HA := Lib.hid (HA.out.below (bOne _ (.cells #[.bool up, .int .i64 ep, .int .i64 sq, .slice a2 m cap2] 26)))
  replace HL := Lib.hid (low_alloc HL.out (.cells #[.bool up, .int .i64 ep, .int .i64 sq, .slice a2 m cap2] 26))
  clear ho hb
  obtain ⟨c0, c1, c2, c3, cl⟩ := HA.out.cells
  go_wp2_with fail
  refine (specAnswer_any _ a n cap up ep sq l x y HA.out.is (by omega) HA.out.own.nilcap).mono ?_
  rintro e w3 ⟨⟨a3, cap3, rfl, ho⟩, hb⟩
  rw [← HS.out, ← HM.out] at ho ⊢
  rw [← HI.out]
  clear c0 c1 c2 c3 cl
  have HD := Lib.hid (W4.new ho hb.size up ep sq)
  replace HA := Lib.hid (HA.out.below hb)
  replace HB := Lib.hid (HB.out.below hb)
  replace HL := Lib.hid (low_after HL.out hb)
  replace HA := Lib.hid (HA.out.below (bOne _ (.cells #[.bool up, .int .i64 ep, .int .i64 sq, .slice a3 m cap3] 26)))
  replace HB := Lib.hid (HB.out.below (bOne _ (.cells #[.bool up, .int .i64 ep, .int .i64 sq, .slice a3 m cap3] 26)))
  replace HL := Lib.hid (low_alloc HL.out (.cells #[.bool up, .int .i64 ep, .int .i64 sq, .slice a3 m cap3] 26))
  clear ho hb
  obtain ⟨c0, c1, c2, c3, cl⟩ := HB.out.cells
  obtain ⟨d0, d1, d2, d3, dl⟩ := HD.out.cells
  have hII : (I != I) = false := by simp
  go_wp2_with fail
  refine (sameLink_yes _ _ a2 a3 m cap2 cap3 up ep sq S HB.out.is HD.out.is (by omega) (Nat.le_refl _)).mono ?_
  rintro e w4 ⟨rfl, hb⟩
  clear c0 c1 c2 c3 cl d0 d1 d2 d3 dl
  clear HD
  replace HA := Lib.hid (HA.out.below hb)
  replace HB := Lib.hid (HB.out.below hb)
  replace HL := Lib.hid (low_after HL.out hb)
  clear hb
  obtain ⟨c0, c1, c2, c3, cl⟩ := HA.out.cells
  have hwe : IntKind.i64.wrap (ep + 1) = ep + 1 := IntWalk.i64_in _ (by omega)
  go_wp2_with fail
  refine (answer_any _ a n cap up ep sq l (ep + 1) y HA.out.is (by omega)).mono ?_
  rintro e w5 ⟨⟨a5, cap5, rfl, ho⟩, hb⟩
  rw [ansI_out (by omega)]
  rw [ansL_out (by omega), ← HNL.out] at ho ⊢
  clear ho
  clear c0 c1 c2 c3 cl
  replace HA := Lib.hid (HA.out.below hb)
  replace HB := Lib.hid (HB.out.below hb)
  replace HL := Lib.hid (low_after HL.out hb)
  replace HA := Lib.hid (HA.out.below (bOne _ (.cells #[.bool up, .int .i64 ep, .int .i64 sq, .slice a5 n cap5] 26)))
  replace HB := Lib.hid (HB.out.below (bOne _ (.cells #[.bool up, .int .i64 ep, .int .i64 sq, .slice a5 n cap5] 26)))
  replace HL := Lib.hid (low_alloc HL.out (.cells #[.bool up, .int .i64 ep, .int .i64 sq, .slice a5 n cap5] 26))
  clear hb hwe hII
  obtain ⟨c0, c1, c2, c3, cl⟩ := HA.out.cells
  obtain ⟨d0, d1, d2, d3, dl⟩ := HB.out.cells
  by_cases hz : I = 0
  · have hb0 : (I == 0) = true := by simp [hz]
    have hSl : S = l := by rw [HS.out]; exact ansL_zero (by rw [← HI.out]; exact hz)
    obtain rfl : n = m := by rw [HNL.out, HM.out, hSl]
    subst hSl
    clear hz HS
    go_wp2_with fail
    refine (sameLink_yes _ _ a2 a n cap2 cap up ep sq S HB.out.is HA.out.is (by omega) (Nat.le_refl _)).mono ?_
    rintro e w6 ⟨rfl, hb⟩
    go_wp2_with fail
    go_ret
    exact ⟨rfl, low_after HL.out hb⟩
  · have hb0 : (I == 0) = false := by simp [hz]
    obtain ⟨h1, h2, h3⟩ := ans_told (up := up) (ep := ep) (sq := sq) (l := l) (e := x) (seq := y) (by rw [← HI.out]; exact hz)
    rw [← HS.out] at h1 h2
    rw [← HM.out, ← HNL.out] at h2
    have H1 := Lib.hid h1
    clear hz h1 h3
    go_wp2_with fail
    refine (linkOk_any _ a2 m cap2 up ep sq S HB.out.is).mono ?_
    rintro e w6 ⟨rfl, hb⟩
    rw [H1.out]
    clear c0 c1 c2 c3 cl d0 d1 d2 d3 dl
    replace HA := Lib.hid (HA.out.below hb)
    replace HB := Lib.hid (HB.out.below hb)
    replace HL := Lib.hid (low_after HL.out hb)
    clear hb
    obtain ⟨c0, c1, c2, c3, cl⟩ := HA.out.cells
    obtain ⟨d0, d1, d2, d3, dl⟩ := HB.out.cells
    have hmn : ((m : Int) == (n : Int) - 1) = true := by simp; omega
    have hwn : IntKind.i64.wrap ((n : Int) - 1) = (n : Int) - 1 := IntWalk.i64_in _ (by omega)
    go_wp2_with fail
    go_ret
    exact ⟨rfl, HL.out⟩
end Go.Proofs.Ytjfhdelphfgojaa.Lnk
