/-
  The walk of the law FnFull.
-/
import Derived.Test.YtkoliacbajpijaaDoorFuA
import Derived.Test.YtkoliacbajpijaaDoorAtA
namespace Go.Proofs.YtkoliacbajpijaaDoor.Whl
open Go.RowKit Go.Maps Go.Proofs.YtkoliacbajpijaaDoor.Kit Go.Proofs.YtkoliacbajpijaaDoor.Draw
set_option linter.unusedVariables false
set_option linter.unusedSimpArgs false

set_option maxRecDepth 100000 in
set_option maxHeartbeats 4000000 in
theorem fnFull_walk (w : World) (a0 : Option Addr) (len0 cap0 : Nat) (zs : List Int) (hrow : IsRow .u8 w a0 len0 cap0 zs) (hT : TabD w) :
    Calls Tryd.prog 7 #[.slice a0 len0 cap0] w fun e w' => e = .returned (.bool true) ∧ Below w.heap.size w w' := by
  have hcode := hrow.code
  have hle := hcode.le
  have HC := Lib.hid hcode
  have HT := Lib.hid hT
  have HTL := Lib.hid hT.lt
  have HLE := Lib.hid hle
  clear hrow hcode hT hle
  go_enter Tryd.func7, Tryd.ntmps7
  by_cases hbig : (1048576 : Int) < (len0 : Int)
  · go_wp2_with fail
    refine (big_yes _ a0 len0 cap0 HLE.out hbig).mono ?_
    rintro e w' ⟨rfl, rfl⟩
    go_wp2_with fail
    go_ret
    exact ⟨rfl, Below.refl _ _⟩
  go_wp2_with fail
  refine (big_no _ a0 len0 cap0 HLE.out (by omega)).mono ?_
  rintro e w' ⟨rfl, rfl⟩
  clear hbig
  have hf0 : Fu w (w.alloc (.cells #[.int .i64 0, .slice none 0 0] 26)) w.heap.size 0 none 0 0 [] :=
    ⟨bOne _ _, Bx.new w _ _ _, Bf.new w _ _, World.ownsRow_nil _ _ _ _, Nat.le_refl _, fun j hj => by simp [Value.ownBlock] at hj⟩
  have HF0 := Lib.hid hf0
  clear hf0
  go_wp2_with fail
  obtain ⟨W, hW⟩ : ∃ W, W = w.alloc (.cells #[.int .i64 0, .slice none 0 0] 26) := ⟨_, rfl⟩
  rw [← hW] at HF0 ⊢
  clear hW
  obtain ⟨b3, hb3⟩ : ∃ b, b = w.heap.size := ⟨_, rfl⟩
  rw [← hb3] at HF0 ⊢
  clear hb3
  go_loopw [4] (fun i wr => ∃ (j : Nat) (a : Option Addr) (n cap : Nat) (l : List T), j ≤ 60 ∧ i = .int .i64 ((j : Int) + 1) ∧ Hid (n = l.length) ∧ Hid (FuL 256 l j) ∧ Hid (Fu w wr b3 0 a n cap l)) (fun i _ => (61 - intOf i).toNat)
  case atStart => exact ⟨0, none, 0, 0, [], by omega, by go_num, Lib.hid rfl, Lib.hid FuL.nil, HF0⟩
  case round =>
    obtain ⟨j, a, n, cap, l, hj, rfl, HN, HJ, HF⟩ := hrel
    obtain rfl : n = l.length := HN.out
    have hll := HJ.out.len
    obtain ⟨i, hi⟩ : ∃ i : Int, i = (j : Int) + 1 := ⟨_, rfl⟩
    rw [← hi]
    by_cases hlt : j < 60
    · have hle60 : i ≤ 60 := by omega
      have hge1 : 1 ≤ i := by omega
      have hd : decide (i ≤ 60) = true := by simp; omega
      have HGO := Lib.hid (fun (X : Int) (h0 : 1 ≤ X) (h1 : X ≤ 256) => show setB 0 l (X, i) = true ∧ FuL 256 (setL l (X, i)) (j + 1) by rw [hi]; exact HJ.out.step hlt (by omega) h0 h1)
      have hll2 : l.length ≤ 60 := by omega
      have HI := Lib.hid hi
      clear hi hll hlt hj
      go_upto_region 7 with fail
      have HKS := Lib.hid (fun w' (h : Below wr.heap.size wr w') => And.intro (HF.out.x.below h).c0 (And.intro (HF.out.x.below h).c1 h))
      have HD := Lib.hid (show Below wr.heap.size wr wr.drew from below_drew' (Below.refl _ _))
      go_cut [5, 6] (fun s6 s7 wx => ∃ k a' cap' z, s6 = .pointer (some ⟨k, 0, none⟩) ∧ s7 = .bool true ∧ (0 ≤ z ∧ z < 256) ∧ Hid (Below wr.heap.size wr wx) ∧ Hid (Wc wx k wr.heap.size wx.heap.size 0 a' (setL l (1 + z, i)).length cap' (setL l (1 + z, i))))
      case first =>
        go_region_held3 (fun w' => w'.cell? ⟨b3, 0, none⟩ = some (.int .i64 0) ∧ w'.cell? ⟨b3, 1, none⟩ = some (.slice a l.length cap) ∧ Below wr.heap.size wr w')
          (first
            | exact HKS.out _ HD.out
            | exact HKS.out _ HLC.out
            | exact HKS.out _ HLB.out
            | exact HKS.out _ (low_alloc HLC.out _)
            | exact HKS.out _ (low_alloc HLB.out _)
            | exact HKS.out _ (low_alloc HD.out _)
            | exact HKS.out _ (low_put HLC.out HLB.out.size _ _)
            | exact HKS.out _ (low_put HLC.out HD.out.size _ _)
            | exact HKS.out _ (low_put HLC.out (Nat.le_refl _) _ _))
          (first
            | (go_at_call 28; refine (at_any _ w.heap.size a0 len0 cap0 (HC.out.below (low_after HF.out.low ((‹_ ∧ _ ∧ Below wr.heap.size wr _›).2.2))) i (by omega) (by omega)).mono ?_; rintro e wB ⟨⟨z, hz0, hz1, rfl⟩, rfl⟩; have HLB := Lib.hid ((‹_ ∧ _ ∧ Below wr.heap.size wr _›).2.2); have hwz : IntKind.i64.wrap (1 + z) = 1 + z := IntWalk.i64_in _ (by omega))
            | (go_at_call 13; refine (setTimer_any _ a l.length cap 0 l _ _ ((HF.out.below ((‹_ ∧ _ ∧ Below wr.heap.size wr _›).2.2)).own.isN) (by omega) (HT.out.below (low_after HF.out.low ((‹_ ∧ _ ∧ Below wr.heap.size wr _›).2.2)) HTL.out)).mono ?_; rintro e w3 ⟨⟨a3, cap3, rfl, ho3⟩, hbC⟩; have HSB := (HGO.out (1 + z) (by omega) (by omega)).1; rw [setR_yes HSB] at ho3 ⊢; rw [HSB]; have HLC := Lib.hid (low_after ((‹_ ∧ _ ∧ Below wr.heap.size wr _›).2.2) hbC); (first | (have hbk := Bz.step1 HBK.out hbC; have HBK := Lib.hid hbk.1; have HKL := Lib.hid hbk.2; obtain ⟨z0, z1, g0, g1, zl⟩ := hbk.1.cells; clear hbk) | (have hbk := Bz.step2 hbC; have HBK := Lib.hid hbk.1; have HKL := Lib.hid hbk.2; obtain ⟨z0, z1, g0, g1, zl⟩ := hbk.1.cells; clear hbk) | (have hbk := Bz.step3 hbC; have HBK := Lib.hid hbk.1; have HKL := Lib.hid hbk.2; obtain ⟨z0, z1, g0, g1, zl⟩ := hbk.1.cells; clear hbk) | skip)))
        all_goals
          go_wp2_with fail
          go_meet
          first
            | exact ⟨_, _, _, z, rfl, rfl, ⟨hz0, hz1⟩, Lib.hid (low_alloc HLC.out _), Lib.hid (Wc.new ho3 (HLB.out.size) hbC.size _)⟩
            | exact ⟨_, _, _, z, rfl, rfl, ⟨hz0, hz1⟩, Lib.hid (low_put HLC.out (by first | exact HLB.out.size | exact HD.out.size | exact Nat.le_refl _) _ _), Lib.hid (Wc.put HBK.out ho3 HKL.out (by first | exact HLB.out.size | exact HD.out.size | exact Nat.le_refl _) _)⟩
      case rest =>
        obtain ⟨k5, a5, cap5, z, rfl, rfl, ⟨hz0, hz1⟩, HB5, HV5⟩ := hcut
        have HF5 := Lib.hid (HF.out.below HB5.out)
        have HJ5 := Lib.hid (HGO.out (1 + z) (by omega) (by omega)).2
        have HF6 := Lib.hid (HF.out.put HB5.out HV5.out.own 0)
        obtain ⟨c0, c1, f0, f1, l3⟩ := HF5.out.cells
        obtain ⟨d0, d1, lt1⟩ := HV5.out.cells
        have hwi : IntKind.i64.wrap (i + 1) = i + 1 := IntWalk.i64_in _ (by omega)
        have hwi2 : wrap64 (i + 1) = i + 1 := by unfold wrap64; omega
        clear hd
        go_wp2_with fail
        have hi := HI.out
        go_roundw
        case rel => exact ⟨j + 1, a5, _, cap5, _, by omega, by first | rw [hi]; go_num | go_num, Lib.hid rfl, HJ5, HF6⟩
        case measure => simp [intOf]; omega
    · obtain rfl : j = 60 := by omega
      obtain rfl : i = 61 := by omega
      obtain ⟨c0, c1, f0, f1, l3⟩ := HF.out.cells
      have HNO := Lib.hid HJ.out.no
      have HOWN := Lib.hid (fun (Y : Int) (h0 : 1 ≤ Y) (h1 : Y ≤ 60) => HJ.out.own h0 h1)
      have HLAST := Lib.hid (fun (Y : Int) (hw : WOk 0 (setL l (700, Y))) (hn : (setL l (700, Y)).length = 60) => last_700 HJ.out (by omega) hw hn)
      have hll2 : l.length ≤ 60 := by omega
      clear hll hlt hj
      go_wp2_with fail
      refine (setTimer_any _ a l.length cap 0 l 5 61 HF.out.own.isN (by omega) (HT.out.below HF.out.low HTL.out)).mono ?_
      rintro e w2 ⟨⟨a2, cap2, rfl, ho2⟩, hb2⟩
      rw [setR_no HNO.out] at ho2 ⊢
      rw [HNO.out]
      have HA2 := Lib.hid (Wb.new ho2 hb2.size 0)
      have HF2 := Lib.hid ((HF.out.below hb2).below (bOne w2 (.cells #[.int .i64 0, .slice a2 l.length cap2] 26)))
      clear ho2 hb2 c0 c1 f0 f1 l3
      go_upto_region 12 with fail
      obtain ⟨V2, hV2⟩ : ∃ V, V = w2.alloc (.cells #[.int .i64 0, .slice a2 l.length cap2] 26) := ⟨_, rfl⟩
      rw [← hV2] at HA2 HF2 ⊢
      clear hV2
      obtain ⟨ka, hka⟩ : ∃ k, k = w2.heap.size := ⟨_, rfl⟩
      rw [← hka] at HA2 ⊢
      clear hka
      have HKS := Lib.hid (fun w' (h : Below V2.heap.size V2 w') => And.intro (HF2.out.x.below h).c0 (And.intro (HF2.out.x.below h).c1 h))
      have HD := Lib.hid (show Below V2.heap.size V2 V2.drew from below_drew' (Below.refl _ _))
      go_cut [9, 10] (fun s6 s7 wx => ∃ k a' cap' z, s6 = .pointer (some ⟨k, 0, none⟩) ∧ s7 = .bool true ∧ (0 ≤ z ∧ z < 256) ∧ Hid (Below V2.heap.size V2 wx) ∧ Hid (Wc wx k V2.heap.size wx.heap.size 0 a' (setL l (700, 1 + z % 60)).length cap' (setL l (700, 1 + z % 60))))
      case first =>
        go_region_held3 (fun w' => w'.cell? ⟨b3, 0, none⟩ = some (.int .i64 0) ∧ w'.cell? ⟨b3, 1, none⟩ = some (.slice a l.length cap) ∧ Below V2.heap.size V2 w')
          (first
            | exact HKS.out _ HD.out
            | exact HKS.out _ HLC.out
            | exact HKS.out _ HLB.out
            | exact HKS.out _ (low_alloc HLC.out _)
            | exact HKS.out _ (low_alloc HLB.out _)
            | exact HKS.out _ (low_alloc HD.out _)
            | exact HKS.out _ (low_put HLC.out HLB.out.size _ _)
            | exact HKS.out _ (low_put HLC.out HD.out.size _ _)
            | exact HKS.out _ (low_put HLC.out (Nat.le_refl _) _ _))
          (first
            | (go_at_call 28; refine (at_any _ w.heap.size a0 len0 cap0 (HC.out.below (low_after HF2.out.low ((‹_ ∧ _ ∧ Below V2.heap.size V2 _›).2.2))) 0 (by omega) (by omega)).mono ?_; rintro e wB ⟨⟨z, hz0, hz1, rfl⟩, rfl⟩; have HLB := Lib.hid ((‹_ ∧ _ ∧ Below V2.heap.size V2 _›).2.2); have hwz : IntKind.i64.wrap (1 + z % 60) = 1 + z % 60 := IntWalk.i64_in _ (by omega); have hmz : z.tmod 60 = z % 60 := Int.tmod_eq_emod_of_nonneg hz0; have hwm : IntKind.i64.wrap (z.tmod 60) = z % 60 := by rw [hmz]; exact IntWalk.i64_in _ (by omega))
            | (go_at_call 13; refine (setTimer_any _ a l.length cap 0 l _ _ ((HF2.out.below ((‹_ ∧ _ ∧ Below V2.heap.size V2 _›).2.2)).own.isN) (by omega) (HT.out.below (low_after HF2.out.low ((‹_ ∧ _ ∧ Below V2.heap.size V2 _›).2.2)) HTL.out)).mono ?_; rintro e w3 ⟨⟨a3, cap3, rfl, ho3⟩, hbC⟩; have HSB := (HOWN.out (1 + z % 60) (by omega) (by omega)).1; rw [setR_yes HSB] at ho3 ⊢; rw [HSB]; have HLC := Lib.hid (low_after ((‹_ ∧ _ ∧ Below V2.heap.size V2 _›).2.2) hbC); (first | (have hbk := Bz.step1 HBK.out hbC; have HBK := Lib.hid hbk.1; have HKL := Lib.hid hbk.2; obtain ⟨z0, z1, g0, g1, zl⟩ := hbk.1.cells; clear hbk) | (have hbk := Bz.step2 hbC; have HBK := Lib.hid hbk.1; have HKL := Lib.hid hbk.2; obtain ⟨z0, z1, g0, g1, zl⟩ := hbk.1.cells; clear hbk) | (have hbk := Bz.step3 hbC; have HBK := Lib.hid hbk.1; have HKL := Lib.hid hbk.2; obtain ⟨z0, z1, g0, g1, zl⟩ := hbk.1.cells; clear hbk) | skip)))
        all_goals
          go_wp2_with fail
          go_meet
          first
            | exact ⟨_, _, _, z, rfl, rfl, ⟨hz0, hz1⟩, Lib.hid (low_alloc HLC.out _), Lib.hid (Wc.new ho3 (HLB.out.size) hbC.size _)⟩
            | exact ⟨_, _, _, z, rfl, rfl, ⟨hz0, hz1⟩, Lib.hid (low_put HLC.out (by first | exact HLB.out.size | exact HD.out.size | exact Nat.le_refl _) _ _), Lib.hid (Wc.put HBK.out ho3 HKL.out (by first | exact HLB.out.size | exact HD.out.size | exact Nat.le_refl _) _)⟩
      case rest =>
        obtain ⟨kb, ab, capb, z, rfl, rfl, ⟨hz0, hz1⟩, HB5, HV5⟩ := hcut
        have HF5 := Lib.hid (HF2.out.below HB5.out)
        have HA5 := Lib.hid (HA2.out.below HB5.out)
        obtain ⟨hb1, hb2, hb3⟩ := HOWN.out (1 + z % 60) (by omega) (by omega)
        have hb4 := HLAST.out (1 + z % 60) hb2 hb3
        obtain ⟨B, hB⟩ : ∃ B, B = setL l (700, 1 + z % 60) := ⟨_, rfl⟩
        have HBK := Lib.hid (show wokB 0 B = true by rw [hB]; exact wokB_true hb2)
        have HB3 := Lib.hid (show B.length = 60 by rw [hB]; exact hb3)
        have HB4 := Lib.hid (show ∃ h : 59 < B.length, B[59].1 = 700 by subst hB; exact ⟨by omega, hb4⟩)
        rw [← hB] at HV5
        clear hb1 hb2 hb3 hb4 hB HOWN HLAST
        obtain ⟨d0, d1, lt1⟩ := HV5.out.cells
        go_wp2_with fail
        refine (setTimer_any _ ab B.length capb 0 B 0 1 HV5.out.is (by have := HB3.out; omega) (HT.out.below HF5.out.low HTL.out)).mono ?_
        rintro e w6 ⟨⟨a6, cap6, rfl, ho6⟩, hb6⟩
        rw [setR_no past_no] at ho6 ⊢
        rw [past_no]
        have HF6 := Lib.hid ((HF5.out.below hb6).below (bOne w6 (.cells #[.int .i64 0, .slice a6 B.length cap6] 26)))
        have HA6 := Lib.hid ((HA5.out.below hb6).below (bOne w6 (.cells #[.int .i64 0, .slice a6 B.length cap6] 26)))
        have HV6 := Lib.hid ((HV5.out.below hb6).below (bOne w6 (.cells #[.int .i64 0, .slice a6 B.length cap6] 26)))
        clear ho6 hb6 d0 d1 lt1 HF5 HA5 HV5
        obtain ⟨c0, c1, f0, f1, l3⟩ := HF6.out.cells
        obtain ⟨d0, d1, lt1⟩ := HA6.out.cells
        obtain ⟨e0, e1, lt2⟩ := HV6.out.cells
        go_wp2_with fail
        refine (sameWheel_yes _ _ a2 a l.length cap2 cap 0 l HA6.out.is HF6.out.own.isN (by omega) (Nat.le_refl _)).mono ?_
        rintro e w7 ⟨rfl, hb7⟩
        have HV7 := Lib.hid (HV6.out.below hb7)
        have HF7 := Lib.hid (HF6.out.below hb7)
        clear hb7 c0 c1 f0 f1 l3 d0 d1 lt1 e0 e1 lt2 HA6 HV6 HF6
        obtain ⟨e0, e1, lt2⟩ := HV7.out.cells
        go_wp2_with fail
        refine (wheelOk_any _ ab B.length capb 0 B HV7.out.is).mono ?_
        rintro e w8 ⟨rfl, hb8⟩
        rw [HBK.out]
        have HV8 := Lib.hid (HV7.out.below hb8)
        have HF8 := Lib.hid (HF7.out.below hb8)
        clear hb8 e0 e1 lt2 HV7 HF7
        obtain ⟨e0, e1, lt2⟩ := HV8.out.cells
        obtain ⟨h59, hv59⟩ := HB4.out
        obtain ⟨bb, off, rfl, hbw, g0, g1⟩ := HV8.out.is.cell 59 h59
        rw [hv59] at g0
        have hz60 : ((B.length : Int) == 60) = true := by simp [HB3.out]
        have hb59 : (59 : Int) < (B.length : Int) := by omega
        clear g1 hv59 h59
        go_wp2_with fail
        go_ret
        exact ⟨rfl, HF8.out.low⟩
end Go.Proofs.YtkoliacbajpijaaDoor.Whl
