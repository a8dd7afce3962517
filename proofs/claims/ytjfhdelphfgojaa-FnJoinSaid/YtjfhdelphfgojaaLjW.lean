/-
  The walk of the law FnJoin.
-/
import Derived.Test.YtjfhdelphfgojaaLmD
import Derived.Test.YtjfhdelphfgojaaLnA
import Derived.Test.YtjfhdelphfgojaaLxA
import Derived.Test.YtjfhdelphfgojaaLkE
import Derived.Test.YtjfhdelphfgojaaLkQ
import Derived.Test.YtjfhdelphfgojaaLkR
import Derived.Test.YtjfhdelphfgojaaLkF
import Derived.Test.YtjfhdelphfgojaaLkI
import Derived.Test.YtjfhdelphfgojaaBig
import Derived.Deep.DeepCutAuto
import Derived.Deep.RegionHeld3
namespace Go.Proofs.Ytjfhdelphfgojaa.Lnk
open Go.RowKit Go.Proofs.Ytjfhdelphfgojaa.Kit Go.Proofs.Ytjfhdelphfgojaa.Draw
set_option linter.unusedVariables false
set_option linter.unusedSimpArgs false

set_option maxRecDepth 100000 in
set_option maxHeartbeats 4000000 in
theorem fnJoin_walk (w : World) (a0 : Option Addr) (len0 cap0 : Nat) (zs : List Int) (hrow : IsRow .u8 w a0 len0 cap0 zs) :
    Calls Try.prog 6 #[.slice a0 len0 cap0] w fun e w' => e = .returned (.bool true) ∧ Below w.heap.size w w' := by
  have hcode := hrow.code
  have hle := hcode.le
  have HC := Lib.hid hcode
  have HLE := Lib.hid hle
  clear hrow hcode hle
  go_enter Try.func6, Try.ntmps6
  by_cases hbig : (1048576 : Int) < (len0 : Int)
  · go_wp2_with fail
    refine (big_yes _ a0 len0 cap0 HLE.out hbig).mono ?_
    rintro e w' ⟨rfl, rfl⟩
    go_wp2_with fail
    go_ret
    exact ⟨rfl, Below.refl _ _⟩
  go_wp2_with fail
  refine (big_no _ a0 len0 cap0 HLE.out (by omega)).mono ?_
  rintro e w' ⟨rfl, rfl⟩
  clear hbig
  go_wp2_with fail
  refine (drawJoin_draw w w.heap.size a0 len0 cap0 HC.out (Nat.le_refl _)).mono ?_
  rintro e w1 ⟨up, ep, sq, a, n, cap, l, rfl, hr, hb⟩
  obtain ⟨ho, hn, hnl, he0, he1⟩ := hr
  have HL := Lib.hid (Below.refl w.heap.size w)
  have HNL := Lib.hid hnl
  clear hnl
  have HA := Lib.hid (W4.new ho hb.size up ep sq)
  replace HL := Lib.hid (low_after HL.out hb)
  replace HL := Lib.hid (low_alloc HL.out (.cells #[.bool up, .int .i64 ep, .int .i64 sq, .slice a n cap] 26))
  clear ho hb
  obtain ⟨c0, c1, c2, c3, cl⟩ := HA.out.cells
  go_wp2_with fail
  refine (join_any _ a n cap up ep sq l HA.out.is (by omega)).mono ?_
  rintro e w2 ⟨⟨a1, cap1, ai1, ci1, rfl, ho, hi⟩, hb⟩
  obtain ⟨S1, hS1⟩ : ∃ x, x = joL up ep sq l := ⟨_, rfl⟩
  obtain ⟨m1, hm1⟩ : ∃ x, x = S1.length := ⟨_, rfl⟩
  obtain ⟨I1, hI1⟩ : ∃ x, x = joI up ep sq l := ⟨_, rfl⟩
  obtain ⟨i1, hi1⟩ : ∃ x, x = I1.length := ⟨_, rfl⟩
  rw [← hS1, ← hm1] at ho ⊢
  rw [← hI1, ← hi1] at hi ⊢
  obtain ⟨U1, hU1⟩ : ∃ x, x = joU up ep sq l := ⟨_, rfl⟩
  rw [← hU1]
  obtain ⟨E1, hE1⟩ : ∃ x, x = joE up ep sq l := ⟨_, rfl⟩
  rw [← hE1]
  obtain ⟨Q1, hQ1⟩ : ∃ x, x = joS up ep sq l := ⟨_, rfl⟩
  rw [← hQ1]
  have KS1 := Lib.hid hS1
  have Km1 := Lib.hid hm1
  have KI1 := Lib.hid hI1
  have Ki1 := Lib.hid hi1
  have KU1 := Lib.hid hU1
  have KE1 := Lib.hid hE1
  have KQ1 := Lib.hid hQ1
  clear hS1 hm1 hI1 hi1 hU1 hE1 hQ1
  have HB := Lib.hid (W4.new ho hb.size U1 E1 Q1)
  have HIB := Lib.hid (Ib.new hi (.cells #[.bool U1, .int .i64 E1, .int .i64 Q1, .slice a1 m1 cap1] 26))
  replace HA := Lib.hid (HA.out.below hb)
  replace HL := Lib.hid (low_after HL.out hb)
  replace HA := Lib.hid (HA.out.below (bOne _ (.cells #[.bool U1, .int .i64 E1, .int .i64 Q1, .slice a1 m1 cap1] 26)))
  replace HL := Lib.hid (low_alloc HL.out (.cells #[.bool U1, .int .i64 E1, .int .i64 Q1, .slice a1 m1 cap1] 26))
  clear ho hi hb
  have hm1 : m1 ≤ 9 := by rw [Km1.out, KS1.out]; exact Nat.le_trans (joL_len _ _ _ _) (by have := HNL.out; omega)
  have hi1 : i1 ≤ 9 := by rw [Ki1.out, KI1.out]; exact Nat.le_trans (joI_len _ _ _ _) (by have := HNL.out; omega)
  clear c0 c1 c2 c3 cl
  obtain ⟨c0, c1, c2, c3, cl⟩ := HA.out.cells
  go_wp2_with fail
  refine (specJoin_any _ a n cap up ep sq l HA.out.is (by omega) HA.out.own.nilcap).mono ?_
  rintro e w3 ⟨⟨a3, cap3, ai3, ci3, rfl, ho, hi⟩, hb⟩
  rw [← KS1.out, ← Km1.out] at ho ⊢
  rw [← KI1.out, ← Ki1.out] at hi ⊢
  rw [← KU1.out]
  rw [← KE1.out]
  rw [← KQ1.out]
  have HD := Lib.hid (W4.new ho hb.size U1 E1 Q1)
  have HID := Lib.hid (Ib.new hi (.cells #[.bool U1, .int .i64 E1, .int .i64 Q1, .slice a3 m1 cap3] 26))
  replace HA := Lib.hid (HA.out.below hb)
  replace HB := Lib.hid (HB.out.below hb)
  replace HIB := Lib.hid (HIB.out.below hb)
  replace HL := Lib.hid (low_after HL.out hb)
  replace HA := Lib.hid (HA.out.below (bOne _ (.cells #[.bool U1, .int .i64 E1, .int .i64 Q1, .slice a3 m1 cap3] 26)))
  replace HB := Lib.hid (HB.out.below (bOne _ (.cells #[.bool U1, .int .i64 E1, .int .i64 Q1, .slice a3 m1 cap3] 26)))
  replace HIB := Lib.hid (HIB.out.below (bOne _ (.cells #[.bool U1, .int .i64 E1, .int .i64 Q1, .slice a3 m1 cap3] 26)))
  replace HL := Lib.hid (low_alloc HL.out (.cells #[.bool U1, .int .i64 E1, .int .i64 Q1, .slice a3 m1 cap3] 26))
  clear ho hi hb
  clear c0 c1 c2 c3 cl
  go_wp2_with fail
  refine (drawLeave_draw _ w.heap.size a0 len0 cap0 (HC.out.below HL.out) HL.out.size).mono ?_
  rintro e w4 ⟨up4, ep4, sq4, a4, n4, cap4, l4, rfl, hr, hb⟩
  obtain ⟨ho, hn4, hnl, hf0, hf1⟩ := hr
  have HNL4 := Lib.hid hnl
  clear hnl
  have HE := Lib.hid (W4.new ho hb.size up4 ep4 sq4)
  replace HA := Lib.hid (HA.out.below hb)
  replace HB := Lib.hid (HB.out.below hb)
  replace HIB := Lib.hid (HIB.out.below hb)
  replace HD := Lib.hid (HD.out.below hb)
  replace HID := Lib.hid (HID.out.below hb)
  replace HL := Lib.hid (low_after HL.out hb)
  replace HA := Lib.hid (HA.out.below (bOne _ (.cells #[.bool up4, .int .i64 ep4, .int .i64 sq4, .slice a4 n4 cap4] 26)))
  replace HB := Lib.hid (HB.out.below (bOne _ (.cells #[.bool up4, .int .i64 ep4, .int .i64 sq4, .slice a4 n4 cap4] 26)))
  replace HIB := Lib.hid (HIB.out.below (bOne _ (.cells #[.bool up4, .int .i64 ep4, .int .i64 sq4, .slice a4 n4 cap4] 26)))
  replace HD := Lib.hid (HD.out.below (bOne _ (.cells #[.bool up4, .int .i64 ep4, .int .i64 sq4, .slice a4 n4 cap4] 26)))
  replace HID := Lib.hid (HID.out.below (bOne _ (.cells #[.bool up4, .int .i64 ep4, .int .i64 sq4, .slice a4 n4 cap4] 26)))
  replace HL := Lib.hid (low_alloc HL.out (.cells #[.bool up4, .int .i64 ep4, .int .i64 sq4, .slice a4 n4 cap4] 26))
  clear ho hb
  obtain ⟨c0, c1, c2, c3, cl⟩ := HE.out.cells
  go_wp2_with fail
  refine (leave_any _ a4 n4 cap4 up4 ep4 sq4 l4 HE.out.is (by omega)).mono ?_
  rintro e w5 ⟨⟨a5, cap5, ai5, ci5, rfl, ho, hi⟩, hb⟩
  obtain ⟨S5, hS5⟩ : ∃ x, x = leL up4 ep4 sq4 l4 := ⟨_, rfl⟩
  obtain ⟨m5, hm5⟩ : ∃ x, x = S5.length := ⟨_, rfl⟩
  obtain ⟨I5, hI5⟩ : ∃ x, x = leI up4 ep4 sq4 l4 := ⟨_, rfl⟩
  obtain ⟨i5, hi5⟩ : ∃ x, x = I5.length := ⟨_, rfl⟩
  rw [← hS5, ← hm5] at ho ⊢
  rw [← hI5, ← hi5] at hi ⊢
  obtain ⟨U5, hU5⟩ : ∃ x, x = leU up4 ep4 sq4 l4 := ⟨_, rfl⟩
  rw [← hU5]
  have KS5 := Lib.hid hS5
  have Km5 := Lib.hid hm5
  have KI5 := Lib.hid hI5
  have Ki5 := Lib.hid hi5
  have KU5 := Lib.hid hU5
  clear hS5 hm5 hI5 hi5 hU5
  have HF := Lib.hid (W4.new ho hb.size U5 ep4 sq4)
  have HIF := Lib.hid (Ib.new hi (.cells #[.bool U5, .int .i64 ep4, .int .i64 sq4, .slice a5 m5 cap5] 26))
  replace HA := Lib.hid (HA.out.below hb)
  replace HB := Lib.hid (HB.out.below hb)
  replace HIB := Lib.hid (HIB.out.below hb)
  replace HD := Lib.hid (HD.out.below hb)
  replace HID := Lib.hid (HID.out.below hb)
  replace HE := Lib.hid (HE.out.below hb)
  replace HL := Lib.hid (low_after HL.out hb)
  replace HA := Lib.hid (HA.out.below (bOne _ (.cells #[.bool U5, .int .i64 ep4, .int .i64 sq4, .slice a5 m5 cap5] 26)))
  replace HB := Lib.hid (HB.out.below (bOne _ (.cells #[.bool U5, .int .i64 ep4, .int .i64 sq4, .slice a5 m5 cap5] 26)))
  replace HIB := Lib.hid (HIB.out.below (bOne _ (.cells #[.bool U5, .int .i64 ep4, .int .i64 sq4, .slice a5 m5 cap5] 26)))
  replace HD := Lib.hid (HD.out.below (bOne _ (.cells #[.bool U5, .int .i64 ep4, .int .i64 sq4, .slice a5 m5 cap5] 26)))
  replace HID := Lib.hid (HID.out.below (bOne _ (.cells #[.bool U5, .int .i64 ep4, .int .i64 sq4, .slice a5 m5 cap5] 26)))
  replace HE := Lib.hid (HE.out.below (bOne _ (.cells #[.bool U5, .int .i64 ep4, .int .i64 sq4, .slice a5 m5 cap5] 26)))
  replace HL := Lib.hid (low_alloc HL.out (.cells #[.bool U5, .int .i64 ep4, .int .i64 sq4, .slice a5 m5 cap5] 26))
  clear ho hi hb
  have hm5 : m5 ≤ 9 := by rw [Km5.out, KS5.out]; exact Nat.le_trans (leL_len _ _ _ _) (by have := HNL4.out; omega)
  have hi5 : i5 ≤ 9 := by rw [Ki5.out, KI5.out]; exact Nat.le_trans (leI_len _ _ _ _) (by have := HNL4.out; omega)
  clear c0 c1 c2 c3 cl
  obtain ⟨c0, c1, c2, c3, cl⟩ := HE.out.cells
  go_wp2_with fail
  refine (specLeave_any _ a4 n4 cap4 up4 ep4 sq4 l4 HE.out.is (by omega) HE.out.own.nilcap).mono ?_
  rintro e w6 ⟨⟨a6, cap6, ai6, ci6, rfl, ho, hi⟩, hb⟩
  rw [← KS5.out, ← Km5.out] at ho ⊢
  rw [← KI5.out, ← Ki5.out] at hi ⊢
  rw [← KU5.out]
  have HG := Lib.hid (W4.new ho hb.size U5 ep4 sq4)
  have HIG := Lib.hid (Ib.new hi (.cells #[.bool U5, .int .i64 ep4, .int .i64 sq4, .slice a6 m5 cap6] 26))
  replace HA := Lib.hid (HA.out.below hb)
  replace HB := Lib.hid (HB.out.below hb)
  replace HIB := Lib.hid (HIB.out.below hb)
  replace HD := Lib.hid (HD.out.below hb)
  replace HID := Lib.hid (HID.out.below hb)
  replace HE := Lib.hid (HE.out.below hb)
  replace HF := Lib.hid (HF.out.below hb)
  replace HIF := Lib.hid (HIF.out.below hb)
  replace HL := Lib.hid (low_after HL.out hb)
  replace HA := Lib.hid (HA.out.below (bOne _ (.cells #[.bool U5, .int .i64 ep4, .int .i64 sq4, .slice a6 m5 cap6] 26)))
  replace HB := Lib.hid (HB.out.below (bOne _ (.cells #[.bool U5, .int .i64 ep4, .int .i64 sq4, .slice a6 m5 cap6] 26)))
  replace HIB := Lib.hid (HIB.out.below (bOne _ (.cells #[.bool U5, .int .i64 ep4, .int .i64 sq4, .slice a6 m5 cap6] 26)))
  replace HD := Lib.hid (HD.out.below (bOne _ (.cells #[.bool U5, .int .i64 ep4, .int .i64 sq4, .slice a6 m5 cap6] 26)))
  replace HID := Lib.hid (HID.out.below (bOne _ (.cells #[.bool U5, .int .i64 ep4, .int .i64 sq4, .slice a6 m5 cap6] 26)))
  replace HE := Lib.hid (HE.out.below (bOne _ (.cells #[.bool U5, .int .i64 ep4, .int .i64 sq4, .slice a6 m5 cap6] 26)))
  replace HF := Lib.hid (HF.out.below (bOne _ (.cells #[.bool U5, .int .i64 ep4, .int .i64 sq4, .slice a6 m5 cap6] 26)))
  replace HIF := Lib.hid (HIF.out.below (bOne _ (.cells #[.bool U5, .int .i64 ep4, .int .i64 sq4, .slice a6 m5 cap6] 26)))
  replace HL := Lib.hid (low_alloc HL.out (.cells #[.bool U5, .int .i64 ep4, .int .i64 sq4, .slice a6 m5 cap6] 26))
  clear ho hi hb
  clear c0 c1 c2 c3 cl
  obtain ⟨c0, c1, c2, c3, cl⟩ := HB.out.cells
  obtain ⟨d0, d1, d2, d3, dl⟩ := HD.out.cells
  go_wp2_with fail
  refine (sameLink_yes _ _ a1 a3 m1 cap1 cap3 U1 E1 Q1 S1 HB.out.is HD.out.is (by omega) (Nat.le_refl _)).mono ?_
  rintro e w7 ⟨rfl, hb⟩
  clear c0 c1 c2 c3 cl d0 d1 d2 d3 dl
  clear HD
  replace HA := Lib.hid (HA.out.below hb)
  replace HB := Lib.hid (HB.out.below hb)
  replace HIB := Lib.hid (HIB.out.below hb)
  replace HID := Lib.hid (HID.out.below hb)
  replace HE := Lib.hid (HE.out.below hb)
  replace HF := Lib.hid (HF.out.below hb)
  replace HIF := Lib.hid (HIF.out.below hb)
  replace HG := Lib.hid (HG.out.below hb)
  replace HIG := Lib.hid (HIG.out.below hb)
  replace HL := Lib.hid (low_after HL.out hb)
  clear hb
  go_wp2_with fail
  refine (sameInts_yes _ _ ai1 ai3 i1 ci1 ci3 I1 HIB.out.is HID.out.is (by omega) (Nat.le_refl _)).mono ?_
  rintro e w8 ⟨rfl, hb⟩
  clear HID
  replace HA := Lib.hid (HA.out.below hb)
  replace HB := Lib.hid (HB.out.below hb)
  replace HIB := Lib.hid (HIB.out.below hb)
  replace HE := Lib.hid (HE.out.below hb)
  replace HF := Lib.hid (HF.out.below hb)
  replace HIF := Lib.hid (HIF.out.below hb)
  replace HG := Lib.hid (HG.out.below hb)
  replace HIG := Lib.hid (HIG.out.below hb)
  replace HL := Lib.hid (low_after HL.out hb)
  clear hb
  obtain ⟨c0, c1, c2, c3, cl⟩ := HF.out.cells
  obtain ⟨d0, d1, d2, d3, dl⟩ := HG.out.cells
  go_wp2_with fail
  refine (sameLink_yes _ _ a5 a6 m5 cap5 cap6 U5 ep4 sq4 S5 HF.out.is HG.out.is (by omega) (Nat.le_refl _)).mono ?_
  rintro e w9 ⟨rfl, hb⟩
  clear c0 c1 c2 c3 cl d0 d1 d2 d3 dl
  clear HG
  replace HA := Lib.hid (HA.out.below hb)
  replace HB := Lib.hid (HB.out.below hb)
  replace HIB := Lib.hid (HIB.out.below hb)
  replace HE := Lib.hid (HE.out.below hb)
  replace HF := Lib.hid (HF.out.below hb)
  replace HIF := Lib.hid (HIF.out.below hb)
  replace HIG := Lib.hid (HIG.out.below hb)
  replace HL := Lib.hid (low_after HL.out hb)
  clear hb
  go_wp2_with fail
  refine (sameInts_yes _ _ ai5 ai6 i5 ci5 ci6 I5 HIF.out.is HIG.out.is (by omega) (Nat.le_refl _)).mono ?_
  rintro e w10 ⟨rfl, hb⟩
  clear HIG
  replace HA := Lib.hid (HA.out.below hb)
  replace HB := Lib.hid (HB.out.below hb)
  replace HIB := Lib.hid (HIB.out.below hb)
  replace HE := Lib.hid (HE.out.below hb)
  replace HF := Lib.hid (HF.out.below hb)
  replace HIF := Lib.hid (HIF.out.below hb)
  replace HL := Lib.hid (low_after HL.out hb)
  clear hb
  obtain ⟨c0, c1, c2, c3, cl⟩ := HE.out.cells
  go_wp2_with fail
  refine (specLinkOk_any _ a4 n4 cap4 up4 ep4 sq4 l4 HE.out.is).mono ?_
  rintro e w11 ⟨rfl, hb⟩
  clear c0 c1 c2 c3 cl
  replace HA := Lib.hid (HA.out.below hb)
  replace HB := Lib.hid (HB.out.below hb)
  replace HIB := Lib.hid (HIB.out.below hb)
  replace HE := Lib.hid (HE.out.below hb)
  replace HF := Lib.hid (HF.out.below hb)
  replace HIF := Lib.hid (HIF.out.below hb)
  replace HL := Lib.hid (low_after HL.out hb)
  clear hb
  cases hk4 : lokB up4 ep4 sq4 l4 with
  | false =>
    clear hk4
    obtain ⟨c0, c1, c2, c3, cl⟩ := HA.out.cells
    go_wp2_with fail
    refine (specLinkOk_any _ a n cap up ep sq l HA.out.is).mono ?_
    rintro e w13 ⟨rfl, hb⟩
    clear c0 c1 c2 c3 cl
    replace HA := Lib.hid (HA.out.below hb)
    replace HB := Lib.hid (HB.out.below hb)
    replace HIB := Lib.hid (HIB.out.below hb)
    replace HE := Lib.hid (HE.out.below hb)
    replace HF := Lib.hid (HF.out.below hb)
    replace HIF := Lib.hid (HIF.out.below hb)
    replace HL := Lib.hid (low_after HL.out hb)
    clear hb
    obtain ⟨c0, c1, c2, c3, cl⟩ := HA.out.cells
    obtain ⟨d0, d1, d2, d3, dl⟩ := HB.out.cells
    cases hk : joiB up ep sq l with
    | false =>
      obtain rfl : S1 = l := by rw [KS1.out]; unfold joL; rw [hk]; rfl
      obtain rfl : n = m1 := by rw [HNL.out, Km1.out]
      obtain rfl : up = U1 := by rw [KU1.out]; unfold joU; rw [hk]; rfl
      obtain rfl : ep = E1 := by rw [KE1.out]; unfold joE; rw [hk]; rfl
      obtain rfl : sq = Q1 := by rw [KQ1.out]; unfold joS; rw [hk]; rfl
      have hI0 : I1 = [] := by rw [KI1.out]; unfold joI; rw [hk]; rfl
      obtain rfl : i1 = 0 := by rw [Ki1.out, hI0]; rfl
      have hq : lokB up ep sq S1 = false ∨ (lokB up ep sq S1 = true ∧ (ep == 60000) = true) := by
        unfold joiB at hk
        cases hl : lokB up ep sq S1 with
        | false => exact .inl rfl
        | true => rw [hl] at hk; exact .inr ⟨rfl, by simpa using hk⟩
      clear hk hI0 KS1 KU1 KE1 KQ1 KI1
      rcases hq with hq | ⟨hq, hb1⟩
      all_goals
        rw [hq]
        clear hq
        go_wp2_with fail
        refine (sameLink_yes _ _ a1 a n cap1 cap up ep sq S1 HB.out.is HA.out.is (by omega) (Nat.le_refl _)).mono ?_
        rintro e w14 ⟨rfl, hb⟩
        go_wp2_with fail
        go_ret
        exact ⟨rfl, low_after HL.out hb⟩
    | true =>
      obtain rfl : U1 = true := by rw [KU1.out]; unfold joU; rw [hk]; rfl
      have hE : E1 = ep + 1 := by rw [KE1.out]; unfold joE; rw [hk]; rfl
      obtain rfl : Q1 = 0 := by rw [KQ1.out]; unfold joS; rw [hk]; rfl
      obtain rfl : S1 = [] := by rw [KS1.out]; unfold joL; rw [hk]; rfl
      obtain rfl : m1 = 0 := by rw [Km1.out]; rfl
      have hI1 : I1 = idsL l := by rw [KI1.out]; unfold joI; rw [hk]; rfl
      obtain rfl : n = i1 := by rw [HNL.out, Ki1.out, hI1]; simp [idsL]
      have hlk : lokB up ep sq l = true ∧ (ep == 60000) = false := by
        unfold joiB at hk
        simp only [Bool.and_eq_true] at hk
        exact ⟨hk.1, by simpa using hk.2⟩
      obtain ⟨hl1, hb1⟩ := hlk
      have hlo := lokB_iff.1 hl1
      have HJ := Lib.hid (show lokB true E1 0 [] = true from lokB_true ⟨by rw [hE]; have := hlo.e0; omega, by rw [hE]; have := hlo.e1; simp at hb1; omega, by omega, by omega, by simp, fun _ => rfl, List.Pairwise.nil, fun t ht => by cases ht⟩)
      have HEE := Lib.hid hE
      rw [hl1]
      clear hl1 hk hlo hI1 hE KU1 KE1 KQ1 KS1 KI1
      go_wp2_with fail
      refine (answer_any _ a1 0 cap1 true E1 0 [] ep 1 HB.out.is (by omega)).mono ?_
      rintro e w14 ⟨⟨a14, cap14, rfl, ho⟩, hb⟩
      rw [ansI_out (by have := HEE.out; omega)]
      rw [ansL_out (by have := HEE.out; omega)] at ho ⊢
      clear ho
      rw [List.length_nil]
      clear c0 c1 c2 c3 cl d0 d1 d2 d3 dl
      replace HA := Lib.hid (HA.out.below hb)
      replace HB := Lib.hid (HB.out.below hb)
      replace HIB := Lib.hid (HIB.out.below hb)
      replace HE := Lib.hid (HE.out.below hb)
      replace HF := Lib.hid (HF.out.below hb)
      replace HIF := Lib.hid (HIF.out.below hb)
      replace HL := Lib.hid (low_after HL.out hb)
      replace HA := Lib.hid (HA.out.below (bOne _ (.cells #[.bool true, .int .i64 E1, .int .i64 0, .slice a14 0 cap14] 26)))
      replace HB := Lib.hid (HB.out.below (bOne _ (.cells #[.bool true, .int .i64 E1, .int .i64 0, .slice a14 0 cap14] 26)))
      replace HIB := Lib.hid (HIB.out.below (bOne _ (.cells #[.bool true, .int .i64 E1, .int .i64 0, .slice a14 0 cap14] 26)))
      replace HE := Lib.hid (HE.out.below (bOne _ (.cells #[.bool true, .int .i64 E1, .int .i64 0, .slice a14 0 cap14] 26)))
      replace HF := Lib.hid (HF.out.below (bOne _ (.cells #[.bool true, .int .i64 E1, .int .i64 0, .slice a14 0 cap14] 26)))
      replace HIF := Lib.hid (HIF.out.below (bOne _ (.cells #[.bool true, .int .i64 E1, .int .i64 0, .slice a14 0 cap14] 26)))
      replace HL := Lib.hid (low_alloc HL.out (.cells #[.bool true, .int .i64 E1, .int .i64 0, .slice a14 0 cap14] 26))
      clear hb
      obtain ⟨c0, c1, c2, c3, cl⟩ := HA.out.cells
      obtain ⟨d0, d1, d2, d3, dl⟩ := HB.out.cells
      go_wp2_with fail
      refine (linkOk_any _ a1 0 cap1 true E1 0 [] HB.out.is).mono ?_
      rintro e w15 ⟨rfl, hb⟩
      rw [HJ.out]
      clear c0 c1 c2 c3 cl d0 d1 d2 d3 dl
      replace HA := Lib.hid (HA.out.below hb)
      replace HB := Lib.hid (HB.out.below hb)
      replace HIB := Lib.hid (HIB.out.below hb)
      replace HE := Lib.hid (HE.out.below hb)
      replace HF := Lib.hid (HF.out.below hb)
      replace HIF := Lib.hid (HIF.out.below hb)
      replace HL := Lib.hid (low_after HL.out hb)
      clear hb
      obtain ⟨c0, c1, c2, c3, cl⟩ := HA.out.cells
      obtain ⟨d0, d1, d2, d3, dl⟩ := HB.out.cells
      have hwe : IntKind.i64.wrap (ep + 1) = E1 := by rw [HEE.out]; exact IntWalk.i64_in _ (by omega)
      have hee : (E1 == E1) = true := by simp
      have hnn : ((n : Int) == (n : Int)) = true := by simp
      go_wp2_with fail
      go_ret
      exact ⟨rfl, HL.out⟩
  | true =>
    obtain rfl : U5 = false := by rw [KU5.out]; unfold leU; rw [hk4]; rfl
    obtain rfl : S5 = [] := by rw [KS5.out]; unfold leL; rw [hk4]; rfl
    obtain rfl : m5 = 0 := by rw [Km5.out]; rfl
    have hI5 : I5 = idsL l4 := by rw [KI5.out]; unfold leI; rw [hk4]; rfl
    obtain rfl : n4 = i5 := by rw [HNL4.out, Ki5.out, hI5]; simp [idsL]
    have hlo := lokB_iff.1 hk4
    have HJ4 := Lib.hid (show lokB false ep4 sq4 [] = true from lokB_true ⟨hlo.e0, hlo.e1, hlo.s0, hlo.s1, by simp, fun h => by simp at h, List.Pairwise.nil, fun t ht => by cases ht⟩)
    have hnn4 : ((n4 : Int) != (n4 : Int)) = false := by simp
    have hee4 : (ep4 != ep4) = false := by simp
    clear hk4 hlo hI5 KU5 KS5 KI5
    obtain ⟨c0, c1, c2, c3, cl⟩ := HE.out.cells
    obtain ⟨d0, d1, d2, d3, dl⟩ := HF.out.cells
    go_wp2_with fail
    refine (linkOk_any _ a5 0 cap5 false ep4 sq4 [] HF.out.is).mono ?_
    rintro e w12 ⟨rfl, hb⟩
    rw [HJ4.out]
    clear c0 c1 c2 c3 cl d0 d1 d2 d3 dl
    replace HA := Lib.hid (HA.out.below hb)
    replace HB := Lib.hid (HB.out.below hb)
    replace HIB := Lib.hid (HIB.out.below hb)
    replace HE := Lib.hid (HE.out.below hb)
    replace HF := Lib.hid (HF.out.below hb)
    replace HIF := Lib.hid (HIF.out.below hb)
    replace HL := Lib.hid (low_after HL.out hb)
    clear hb
    obtain ⟨c0, c1, c2, c3, cl⟩ := HA.out.cells
    go_wp2_with fail
    refine (specLinkOk_any _ a n cap up ep sq l HA.out.is).mono ?_
    rintro e w13 ⟨rfl, hb⟩
    clear c0 c1 c2 c3 cl
    replace HA := Lib.hid (HA.out.below hb)
    replace HB := Lib.hid (HB.out.below hb)
    replace HIB := Lib.hid (HIB.out.below hb)
    replace HE := Lib.hid (HE.out.below hb)
    replace HF := Lib.hid (HF.out.below hb)
    replace HIF := Lib.hid (HIF.out.below hb)
    replace HL := Lib.hid (low_after HL.out hb)
    clear hb
    obtain ⟨c0, c1, c2, c3, cl⟩ := HA.out.cells
    obtain ⟨d0, d1, d2, d3, dl⟩ := HB.out.cells
    cases hk : joiB up ep sq l with
    | false =>
      obtain rfl : S1 = l := by rw [KS1.out]; unfold joL; rw [hk]; rfl
      obtain rfl : n = m1 := by rw [HNL.out, Km1.out]
      obtain rfl : up = U1 := by rw [KU1.out]; unfold joU; rw [hk]; rfl
      obtain rfl : ep = E1 := by rw [KE1.out]; unfold joE; rw [hk]; rfl
      obtain rfl : sq = Q1 := by rw [KQ1.out]; unfold joS; rw [hk]; rfl
      have hI0 : I1 = [] := by rw [KI1.out]; unfold joI; rw [hk]; rfl
      obtain rfl : i1 = 0 := by rw [Ki1.out, hI0]; rfl
      have hq : lokB up ep sq S1 = false ∨ (lokB up ep sq S1 = true ∧ (ep == 60000) = true) := by
        unfold joiB at hk
        cases hl : lokB up ep sq S1 with
        | false => exact .inl rfl
        | true => rw [hl] at hk; exact .inr ⟨rfl, by simpa using hk⟩
      clear hk hI0 KS1 KU1 KE1 KQ1 KI1
      rcases hq with hq | ⟨hq, hb1⟩
      all_goals
        rw [hq]
        clear hq
        go_wp2_with fail
        refine (sameLink_yes _ _ a1 a n cap1 cap up ep sq S1 HB.out.is HA.out.is (by omega) (Nat.le_refl _)).mono ?_
        rintro e w14 ⟨rfl, hb⟩
        go_wp2_with fail
        go_ret
        exact ⟨rfl, low_after HL.out hb⟩
    | true =>
      obtain rfl : U1 = true := by rw [KU1.out]; unfold joU; rw [hk]; rfl
      have hE : E1 = ep + 1 := by rw [KE1.out]; unfold joE; rw [hk]; rfl
      obtain rfl : Q1 = 0 := by rw [KQ1.out]; unfold joS; rw [hk]; rfl
      obtain rfl : S1 = [] := by rw [KS1.out]; unfold joL; rw [hk]; rfl
      obtain rfl : m1 = 0 := by rw [Km1.out]; rfl
      have hI1 : I1 = idsL l := by rw [KI1.out]; unfold joI; rw [hk]; rfl
      obtain rfl : n = i1 := by rw [HNL.out, Ki1.out, hI1]; simp [idsL]
      have hlk : lokB up ep sq l = true ∧ (ep == 60000) = false := by
        unfold joiB at hk
        simp only [Bool.and_eq_true] at hk
        exact ⟨hk.1, by simpa using hk.2⟩
      obtain ⟨hl1, hb1⟩ := hlk
      have hlo := lokB_iff.1 hl1
      have HJ := Lib.hid (show lokB true E1 0 [] = true from lokB_true ⟨by rw [hE]; have := hlo.e0; omega, by rw [hE]; have := hlo.e1; simp at hb1; omega, by omega, by omega, by simp, fun _ => rfl, List.Pairwise.nil, fun t ht => by cases ht⟩)
      have HEE := Lib.hid hE
      rw [hl1]
      clear hl1 hk hlo hI1 hE KU1 KE1 KQ1 KS1 KI1
      go_wp2_with fail
      refine (answer_any _ a1 0 cap1 true E1 0 [] ep 1 HB.out.is (by omega)).mono ?_
      rintro e w14 ⟨⟨a14, cap14, rfl, ho⟩, hb⟩
      rw [ansI_out (by have := HEE.out; omega)]
      rw [ansL_out (by have := HEE.out; omega)] at ho ⊢
      clear ho
      rw [List.length_nil]
      clear c0 c1 c2 c3 cl d0 d1 d2 d3 dl
      replace HA := Lib.hid (HA.out.below hb)
      replace HB := Lib.hid (HB.out.below hb)
      replace HIB := Lib.hid (HIB.out.below hb)
      replace HE := Lib.hid (HE.out.below hb)
      replace HF := Lib.hid (HF.out.below hb)
      replace HIF := Lib.hid (HIF.out.below hb)
      replace HL := Lib.hid (low_after HL.out hb)
      replace HA := Lib.hid (HA.out.below (bOne _ (.cells #[.bool true, .int .i64 E1, .int .i64 0, .slice a14 0 cap14] 26)))
      replace HB := Lib.hid (HB.out.below (bOne _ (.cells #[.bool true, .int .i64 E1, .int .i64 0, .slice a14 0 cap14] 26)))
      replace HIB := Lib.hid (HIB.out.below (bOne _ (.cells #[.bool true, .int .i64 E1, .int .i64 0, .slice a14 0 cap14] 26)))
      replace HE := Lib.hid (HE.out.below (bOne _ (.cells #[.bool true, .int .i64 E1, .int .i64 0, .slice a14 0 cap14] 26)))
      replace HF := Lib.hid (HF.out.below (bOne _ (.cells #[.bool true, .int .i64 E1, .int .i64 0, .slice a14 0 cap14] 26)))
      replace HIF := Lib.hid (HIF.out.below (bOne _ (.cells #[.bool true, .int .i64 E1, .int .i64 0, .slice a14 0 cap14] 26)))
      replace HL := Lib.hid (low_alloc HL.out (.cells #[.bool true, .int .i64 E1, .int .i64 0, .slice a14 0 cap14] 26))
      clear hb
      obtain ⟨c0, c1, c2, c3, cl⟩ := HA.out.cells
      obtain ⟨d0, d1, d2, d3, dl⟩ := HB.out.cells
      go_wp2_with fail
      refine (linkOk_any _ a1 0 cap1 true E1 0 [] HB.out.is).mono ?_
      rintro e w15 ⟨rfl, hb⟩
      rw [HJ.out]
      clear c0 c1 c2 c3 cl d0 d1 d2 d3 dl
      replace HA := Lib.hid (HA.out.below hb)
      replace HB := Lib.hid (HB.out.below hb)
      replace HIB := Lib.hid (HIB.out.below hb)
      replace HE := Lib.hid (HE.out.below hb)
      replace HF := Lib.hid (HF.out.below hb)
      replace HIF := Lib.hid (HIF.out.below hb)
      replace HL := Lib.hid (low_after HL.out hb)
      clear hb
      obtain ⟨c0, c1, c2, c3, cl⟩ := HA.out.cells
      obtain ⟨d0, d1, d2, d3, dl⟩ := HB.out.cells
      have hwe : IntKind.i64.wrap (ep + 1) = E1 := by rw [HEE.out]; exact IntWalk.i64_in _ (by omega)
      have hee : (E1 == E1) = true := by simp
      have hnn : ((n : Int) == (n : Int)) = true := by simp
      go_wp2_with fail
      go_ret
      exact ⟨rfl, HL.out⟩
end Go.Proofs.Ytjfhdelphfgojaa.Lnk
