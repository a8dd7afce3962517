/-
  The walk of the law FnExactSetTimer.
-/
import Derived.Test.YtkoliacbajpijaaDoorExA
import Derived.Test.YtkoliacbajpijaaDoorSpsW
import Derived.Test.YtkoliacbajpijaaDoorExB
namespace Go.Proofs.YtkoliacbajpijaaDoor.Whl
open Go.RowKit Go.Maps
set_option linter.unusedVariables false

theorem setR_len (now : Int) (l : List T) (t : T) : (setR now l t).length ≤ l.length + 60 := by
  unfold setR
  cases h : setB now l t with
  | false => simp
  | true =>
    unfold setB at h
    simp only [Bool.and_eq_true] at h
    have h2 : WOk now (setL l t) := by
      by_cases hc : WOk now (setL l t)
      · exact hc
      · rw [wokB_false hc] at h; simp at h
    have := h2.len
    simp
    omega
theorem low_drew {V W : World} (h : Below W.heap.size W V) : Below W.heap.size W V.drew := below_drew' h

set_option maxRecDepth 100000 in
set_option maxHeartbeats 2000000 in
theorem exactSet_walk (w : World) (a : Option Addr) (len cap : Nat) (now : Int) (l : List T) (x y : Int) (h : TIs w.heap.size w a len l) (hx : (Lit.int .i64 x).wf = true) (hy : (Lit.int .i64 y).wf = true) (hT : TabD w) :
    Calls Tryd.prog 8 #[.agg #[.int .i64 now, .slice a len cap], .agg #[.int .i64 x, .int .i64 y]] w fun e w' => e = .returned (.bool true) ∧ Below w.heap.size w w' := by
  have hle := h.le
  have hll := h.hlen
  have hb0 : Below w.heap.size w ((w.alloc (.cells #[.int .i64 now, .slice a len cap] 47)).alloc (.cells #[.int .i64 x, .int .i64 y] 48)) := ((Below.refl _ _).alloc (Nat.le_refl _) _).alloc (bOne _ _).size _
  have HT := Lib.hid (h.here hb0)
  have HTab := Lib.hid (hT.below hb0 hT.lt)
  have hTL := hT.lt
  have HLE := Lib.hid hle
  have HA := Lib.hid ((Bx.new w (.int .i64 now) (.slice a len cap) 47).below (bOne _ (.cells #[.int .i64 x, .int .i64 y] 48)))
  have HT2 := Lib.hid (show Bx ((w.alloc (.cells #[.int .i64 now, .slice a len cap] 47)).alloc (.cells #[.int .i64 x, .int .i64 y] 48)) (w.heap.size + 1) (.int .i64 x) (.int .i64 y) by
    have := Bx.new (w.alloc (.cells #[.int .i64 now, .slice a len cap] 47)) (.int .i64 x) (.int .i64 y) 48
    simpa using this)
  have HBX := Lib.hid hb0
  have HLL := Lib.hid hll
  clear h hle hT hb0 hll
  have HTL := Lib.hid (show 0 < ((w.alloc (.cells #[.int .i64 now, .slice a len cap] 47)).alloc (.cells #[.int .i64 x, .int .i64 y] 48)).heap.size by have := HBX.out.size; omega)
  clear hTL
  go_enter Tryd.func8, Tryd.ntmps8
  by_cases hbig : 1048576 < len
  · have HBG := Lib.hid hbig
    clear hbig
    go_wp2_with fail
    refine (szWheel_big _ a len cap now HLE.out HBG.out).mono ?_
    rintro e w1 ⟨rfl, hb1⟩
    have HB1 := Lib.hid hb1
    clear hb1
    go_wp2_with fail
    go_ret
    exact ⟨rfl, bAfter HBX.out HB1.out HBX.out.size⟩
  · have HSM := Lib.hid (show len ≤ 1048576 by omega)
    clear hbig
    obtain ⟨W, hW⟩ : ∃ W, W = (w.alloc (.cells #[.int .i64 now, .slice a len cap] 47)).alloc (.cells #[.int .i64 x, .int .i64 y] 48) := ⟨_, rfl⟩
    rw [← hW] at HT HTab HA HT2 HBX HTL
    have HWE := Lib.hid hW
    clear hW
    have HLS := Lib.hid (show l.length ≤ 1048576 by have := HSM.out; have := HLL.out; omega)
    obtain ⟨ok, hok⟩ : ∃ ok, ok = setB now l (x, y) := ⟨_, rfl⟩
    have HOK := Lib.hid hok
    obtain ⟨S, hS⟩ : ∃ S, S = setR now l (x, y) := ⟨_, rfl⟩
    have HS := Lib.hid hS
    obtain ⟨n, hn⟩ : ∃ n, n = S.length := ⟨_, rfl⟩
    have HN := Lib.hid hn
    have HSL := Lib.hid (show n ≤ 1048640 by rw [hn, hS]; exact Nat.le_trans (setR_len now l (x, y)) (by have := HLS.out; omega))
    clear hok hS hn
    go_wp2_with fail
    rw [← HWE.out]
    refine (szWheel_small _ a len cap now HSM.out).mono ?_
    rintro e V1 ⟨⟨z, hz0, rfl⟩, hb1⟩
    have HL1 := Lib.hid hb1
    clear hb1
    have HAV1 := Lib.hid (HA.out.below HL1.out)
    have HTV1 := Lib.hid (HT2.out.below HL1.out)
    have HTIV1 := Lib.hid (HT.out.here HL1.out)
    go_upto_region 5 with fail
    have HKS := Lib.hid (fun w' (h : Below V1.heap.size V1 w') => And.intro (HAV1.out.below h).c0 (And.intro (HAV1.out.below h).c1 (And.intro (HTV1.out.below h).c0 (And.intro (HTV1.out.below h).c1 h))))
    have HD := Lib.hid (show Below V1.heap.size V1 V1.drew from below_drew' (Below.refl _ _))
    go_cut [6, 7] (fun s6 s7 wx => ∃ k a' cap', s6 = .pointer (some ⟨k, 0, none⟩) ∧ s7 = .bool ok ∧ Hid (Below V1.heap.size V1 wx) ∧ Hid (Wc wx k V1.heap.size wx.heap.size now a' n cap' S))
    case first =>
      go_region_held3 (fun w' => w'.cell? ⟨w.heap.size, 0, none⟩ = some (.int .i64 now) ∧ w'.cell? ⟨w.heap.size, 1, none⟩ = some (.slice a len cap) ∧ w'.cell? ⟨w.heap.size + 1, 0, none⟩ = some (.int .i64 x) ∧ w'.cell? ⟨w.heap.size + 1, 1, none⟩ = some (.int .i64 y) ∧ Below V1.heap.size V1 w')
        (first
          | exact HKS.out _ HD.out
          | exact HKS.out _ HLC.out
          | exact HKS.out _ HLB.out
          | exact HKS.out _ HLA.out
          | exact HKS.out _ (low_alloc HLC.out _)
          | exact HKS.out _ (low_alloc HLB.out _)
          | exact HKS.out _ (low_alloc HLA.out _)
          | exact HKS.out _ (low_alloc HD.out _)
          | exact HKS.out _ (low_put HLC.out HLB.out.size _ _)
          | exact HKS.out _ (low_put HLC.out HLA.out.size _ _)
          | exact HKS.out _ (low_put HLC.out HD.out.size _ _)
          | exact HKS.out _ (low_put HLC.out (Nat.le_refl _) _ _))
        (first
          | (go_at_call 30; refine (toWheel_any _ _ a len cap now l (HTIV1.out.here ((‹_ ∧ _ ∧ _ ∧ _ ∧ Below V1.heap.size V1 _›).2.2.2.2)) (Nat.le_refl _) HSM.out).mono ?_; rintro e wA ⟨⟨a2, cap2, rfl, ho2⟩, hbA⟩; have HLA := Lib.hid (low_after ((‹_ ∧ _ ∧ _ ∧ _ ∧ Below V1.heap.size V1 _›).2.2.2.2) hbA); (first | (have hbk := Bz.step1 HBK.out hbA; have HBK := Lib.hid hbk.1; have HKL := Lib.hid hbk.2; obtain ⟨z0, z1, g0, g1, zl⟩ := hbk.1.cells; clear hbk) | (have hbk := Bz.step2 hbA; have HBK := Lib.hid hbk.1; have HKL := Lib.hid hbk.2; obtain ⟨z0, z1, g0, g1, zl⟩ := hbk.1.cells; clear hbk) | (have hbk := Bz.step3 hbA; have HBK := Lib.hid hbk.1; have HKL := Lib.hid hbk.2; obtain ⟨z0, z1, g0, g1, zl⟩ := hbk.1.cells; clear hbk) | skip))
          | (go_at_call 31; refine (toTimer_any _ x y).mono ?_; rintro e wB ⟨rfl, hbB⟩; have HLB := Lib.hid (low_after ((‹_ ∧ _ ∧ _ ∧ _ ∧ Below V1.heap.size V1 _›).2.2.2.2) hbB); (first | (have hbk := Bz.step1 HBK.out hbB; have HBK := Lib.hid hbk.1; have HKL := Lib.hid hbk.2; obtain ⟨z0, z1, g0, g1, zl⟩ := hbk.1.cells; clear hbk) | (have hbk := Bz.step2 hbB; have HBK := Lib.hid hbk.1; have HKL := Lib.hid hbk.2; obtain ⟨z0, z1, g0, g1, zl⟩ := hbk.1.cells; clear hbk) | (have hbk := Bz.step3 hbB; have HBK := Lib.hid hbk.1; have HKL := Lib.hid hbk.2; obtain ⟨z0, z1, g0, g1, zl⟩ := hbk.1.cells; clear hbk) | skip))
          | (go_at_call 14; refine (specSetTimer_any _ a2 l.length cap2 now l x y (by first | exact ho2.isN | exact (ho2.below hbB).isN | exact (ho2.below (bOne _ _)).isN | exact ((ho2.below hbB).below (bOne _ _)).isN | exact ((ho2.below (bOne _ _)).below hbB).isN) HLS.out ho2.nilcap).mono ?_; rintro e w3 ⟨⟨a3, cap3, rfl, ho3⟩, hbC⟩; rw [← HS.out, ← HN.out] at ho3 ⊢; rw [← HOK.out]; have HLC := Lib.hid (low_after ((‹_ ∧ _ ∧ _ ∧ _ ∧ Below V1.heap.size V1 _›).2.2.2.2) hbC); have HC3 := Lib.hid hbC; (first | (have hbk := Bz.step1 HBK.out hbC; have HBK := Lib.hid hbk.1; have HKL := Lib.hid hbk.2; obtain ⟨z0, z1, g0, g1, zl⟩ := hbk.1.cells; clear hbk) | (have hbk := Bz.step2 hbC; have HBK := Lib.hid hbk.1; have HKL := Lib.hid hbk.2; obtain ⟨z0, z1, g0, g1, zl⟩ := hbk.1.cells; clear hbk) | (have hbk := Bz.step3 hbC; have HBK := Lib.hid hbk.1; have HKL := Lib.hid hbk.2; obtain ⟨z0, z1, g0, g1, zl⟩ := hbk.1.cells; clear hbk) | skip)))
      all_goals
        go_wp2_with fail
        go_meet
        first
          | exact ⟨_, _, _, rfl, rfl, Lib.hid (low_alloc HLC.out _), Lib.hid (Wc.new ho3 (HLB.out.size) hbC.size now)⟩
          | exact ⟨_, _, _, rfl, rfl, Lib.hid (low_put HLC.out (by first | exact HLB.out.size | exact HLA.out.size | exact HD.out.size | exact Nat.le_refl _) _ _), Lib.hid (Wc.put HBK.out ho3 HKL.out (by first | exact HLB.out.size | exact HLA.out.size | exact HD.out.size | exact Nat.le_refl _) now)⟩
    case rest =>
      obtain ⟨k6, a3, cap3, rfl, rfl, HB2, HW0⟩ := hcut
      obtain ⟨V2, hV2⟩ : ∃ V, V = wc := ⟨_, rfl⟩
      rw [← hV2] at HB2 HW0 ⊢
      clear hV2
      obtain ⟨E2, hE2⟩ : ∃ E, E = V2.heap.size := ⟨_, rfl⟩
      have HW0 := Lib.hid (show Wc V2 k6 V1.heap.size E2 now a3 n cap3 S by rw [hE2]; exact HW0.out)
      have HE2 := Lib.hid hE2
      have HL2 := Lib.hid (low_after HL1.out HB2.out)
      clear hE2 HAV1 HTV1 HTIV1 HB2
      obtain ⟨c0, c1, lt0⟩ := HA.out.below HL2.out
      go_wp2_with fail
      refine (toWheel_any _ _ a len cap now l (HT.out.here HL2.out) (Nat.le_refl _) HSM.out).mono ?_
      rintro e w4 ⟨⟨a4, cap4, rfl, ho4⟩, hb4⟩
      have HW0' := Lib.hid ((HW0.out.below hb4).below (bOne w4 (.cells #[.int .i64 now, .slice a4 l.length cap4] 26)))
      have hwx := Wb.new ho4 hb4.size now
      rw [← HE2.out] at hwx
      have HWX := Lib.hid hwx
      have HL4 := Lib.hid (low_alloc (low_after HL2.out hb4) (.cells #[.int .i64 now, .slice a4 l.length cap4] 26))
      have HK4 := Lib.hid (show w4.heap.size < (w4.alloc (.cells #[.int .i64 now, .slice a4 l.length cap4] 26)).heap.size by simp)
      have HLE2 := Lib.hid (show W.heap.size ≤ E2 by rw [HE2.out]; exact HL2.out.size)
      clear hb4 ho4 hwx c0 c1 lt0 HW0
      go_upto_region 7 with fail
      obtain ⟨V3, hV3⟩ : ∃ V, V = w4.alloc (.cells #[.int .i64 now, .slice a4 l.length cap4] 26) := ⟨_, rfl⟩
      rw [← hV3] at HW0' HWX HL4 HK4 ⊢
      clear hV3
      have HXV3 := Lib.hid HWX.out.box
      have HTV3 := Lib.hid (HT2.out.below HL4.out)
      have HTXV3 := Lib.hid HWX.out.is
      have HTbV3 := Lib.hid (HTab.out.below HL4.out HTL.out)
      have HTLV3 := Lib.hid (Nat.lt_of_lt_of_le HTL.out HL4.out.size)
      have HKS := Lib.hid (fun w' (h : Below V3.heap.size V3 w') => And.intro (HXV3.out.below h).c0 (And.intro (HXV3.out.below h).c1 (And.intro (HTV3.out.below h).c0 (And.intro (HTV3.out.below h).c1 h))))
      have HD := Lib.hid (show Below V3.heap.size V3 V3.drew from below_drew' (Below.refl _ _))
      go_cut [9, 10] (fun s6 s7 wx => ∃ k a' cap', s6 = .pointer (some ⟨k, 0, none⟩) ∧ s7 = .bool ok ∧ Hid (Below V3.heap.size V3 wx) ∧ Hid (Wc wx k V3.heap.size wx.heap.size now a' n cap' S))
      case first =>
        go_region_held3 (fun w' => w'.cell? ⟨w4.heap.size, 0, none⟩ = some (.int .i64 now) ∧ w'.cell? ⟨w4.heap.size, 1, none⟩ = some (.slice a4 l.length cap4) ∧ w'.cell? ⟨w.heap.size + 1, 0, none⟩ = some (.int .i64 x) ∧ w'.cell? ⟨w.heap.size + 1, 1, none⟩ = some (.int .i64 y) ∧ Below V3.heap.size V3 w')
          (first
            | exact HKS.out _ HD.out
            | exact HKS.out _ HLC.out
            | exact HKS.out _ HLB.out
            | exact HKS.out _ HLA.out
            | exact HKS.out _ (low_alloc HLC.out _)
            | exact HKS.out _ (low_alloc HLB.out _)
            | exact HKS.out _ (low_alloc HLA.out _)
            | exact HKS.out _ (low_alloc HD.out _)
            | exact HKS.out _ (low_put HLC.out HLB.out.size _ _)
            | exact HKS.out _ (low_put HLC.out HLA.out.size _ _)
            | exact HKS.out _ (low_put HLC.out HD.out.size _ _)
            | exact HKS.out _ (low_put HLC.out (Nat.le_refl _) _ _))
          (first
            | (go_at_call 31; refine (toTimer_any _ x y).mono ?_; rintro e wB ⟨rfl, hbB⟩; have HLB := Lib.hid (low_after ((‹_ ∧ _ ∧ _ ∧ _ ∧ Below V3.heap.size V3 _›).2.2.2.2) hbB); (first | (have hbk := Bz.step1 HBK.out hbB; have HBK := Lib.hid hbk.1; have HKL := Lib.hid hbk.2; obtain ⟨z0, z1, g0, g1, zl⟩ := hbk.1.cells; clear hbk) | (have hbk := Bz.step2 hbB; have HBK := Lib.hid hbk.1; have HKL := Lib.hid hbk.2; obtain ⟨z0, z1, g0, g1, zl⟩ := hbk.1.cells; clear hbk) | (have hbk := Bz.step3 hbB; have HBK := Lib.hid hbk.1; have HKL := Lib.hid hbk.2; obtain ⟨z0, z1, g0, g1, zl⟩ := hbk.1.cells; clear hbk) | skip))
            | (go_at_call 13; refine (setTimer_any _ a4 l.length cap4 now l x y (HTXV3.out.here ((‹_ ∧ _ ∧ _ ∧ _ ∧ Below V3.heap.size V3 _›).2.2.2.2)) HLS.out (HTbV3.out.below ((‹_ ∧ _ ∧ _ ∧ _ ∧ Below V3.heap.size V3 _›).2.2.2.2) HTLV3.out)).mono ?_; rintro e w3 ⟨⟨a3, cap3, rfl, ho3⟩, hbC⟩; rw [← HS.out, ← HN.out] at ho3 ⊢; rw [← HOK.out]; have HLC := Lib.hid (low_after ((‹_ ∧ _ ∧ _ ∧ _ ∧ Below V3.heap.size V3 _›).2.2.2.2) hbC); have HC3 := Lib.hid hbC; (first | (have hbk := Bz.step1 HBK.out hbC; have HBK := Lib.hid hbk.1; have HKL := Lib.hid hbk.2; obtain ⟨z0, z1, g0, g1, zl⟩ := hbk.1.cells; clear hbk) | (have hbk := Bz.step2 hbC; have HBK := Lib.hid hbk.1; have HKL := Lib.hid hbk.2; obtain ⟨z0, z1, g0, g1, zl⟩ := hbk.1.cells; clear hbk) | (have hbk := Bz.step3 hbC; have HBK := Lib.hid hbk.1; have HKL := Lib.hid hbk.2; obtain ⟨z0, z1, g0, g1, zl⟩ := hbk.1.cells; clear hbk) | skip)))
        all_goals
          go_wp2_with fail
          go_meet
          first
            | exact ⟨_, _, _, rfl, rfl, Lib.hid (low_alloc HLC.out _), Lib.hid (Wc.new ho3 (HLB.out.size) hbC.size now)⟩
            | exact ⟨_, _, _, rfl, rfl, Lib.hid (low_put HLC.out (by first | exact HLB.out.size | exact HLA.out.size | exact HD.out.size | exact Nat.le_refl _) _ _), Lib.hid (Wc.put HBK.out ho3 HKL.out (by first | exact HLB.out.size | exact HLA.out.size | exact HD.out.size | exact Nat.le_refl _) now)⟩
      case rest =>
        obtain ⟨k9, a5, cap5, rfl, rfl, HB5, HWG⟩ := hcut
        obtain ⟨V4, hV4⟩ : ∃ V, V = wc := ⟨_, rfl⟩
        rw [← hV4] at HB5 HWG ⊢
        clear hV4
        obtain ⟨E5, hE5⟩ : ∃ E, E = V4.heap.size := ⟨_, rfl⟩
        have HWG := Lib.hid (show Wc V4 k9 V3.heap.size E5 now a5 n cap5 S by rw [hE5]; exact HWG.out)
        obtain ⟨B5, hB5⟩ : ∃ B, B = V3.heap.size := ⟨_, rfl⟩
        have HLB5 := Lib.hid (show W.heap.size ≤ B5 by rw [hB5]; exact HL4.out.size)
        have HW0 := Lib.hid (HW0'.out.below HB5.out)
        have HWX' := Lib.hid (HWX.out.below HB5.out)
        have HLO4 := Lib.hid (HWX.out.lo)
        have HL5 := Lib.hid (low_after HL4.out HB5.out)
        rw [← hB5] at HWG HK4
        clear hE5 hB5 HXV3 HTV3 HTXV3 HTbV3 HTLV3 HB5 HW0' HWX HL4
        obtain ⟨c0, c1, lt0⟩ := HWG.out.cells
        obtain ⟨d0, d1, lt1⟩ := HW0.out.cells
        go_wp2_with fail
        refine (eqWheel_yes _ _ a5 a3 n cap5 cap3 now S HWG.out.is HW0.out.is (Nat.le_refl _)).mono ?_
        rintro e w6 ⟨rfl, hb6⟩
        have HW06 := Lib.hid (HW0.out.below hb6)
        have HWX6 := Lib.hid (HWX'.out.below hb6)
        have HWG6 := Lib.hid (HWG.out.below hb6)
        have HL6 := Lib.hid (low_after HL5.out hb6)
        clear hb6 c0 c1 lt0 d0 d1 lt1 HW0 HWX' HWG HL5
        obtain ⟨c0, c1, lt0⟩ := HA.out.below HL6.out
        obtain ⟨d0, d1, lt1⟩ := HWX6.out.cells
        go_wp2_with fail
        have HD := Lib.hid (show Below w6.heap.size w6 w6.drew from below_drew' (Below.refl _ _))
        go_region_held3 (fun w' => w'.cell? ⟨w.heap.size, 0, none⟩ = some (.int .i64 now) ∧ w'.cell? ⟨w.heap.size, 1, none⟩ = some (.slice a len cap) ∧ w'.cell? ⟨w4.heap.size, 0, none⟩ = some (.int .i64 now) ∧ w'.cell? ⟨w4.heap.size, 1, none⟩ = some (.slice a4 l.length cap4))
          (first
            | go_keep
            | (go_split_ands; exact ⟨below_keep hb7 (Nat.le_refl _) lt0 ‹_›, below_keep hb7 (Nat.le_refl _) lt0 ‹_›, below_keep hb7 (Nat.le_refl _) lt1 ‹_›, below_keep hb7 (Nat.le_refl _) lt1 ‹_›⟩)
            | (go_split_ands; exact ⟨below_keep hb8 (Nat.le_refl _) (Nat.lt_of_lt_of_le lt0 hb7.size) ‹_›, below_keep hb8 (Nat.le_refl _) (Nat.lt_of_lt_of_le lt0 hb7.size) ‹_›, below_keep hb8 (Nat.le_refl _) (Nat.lt_of_lt_of_le lt1 hb7.size) ‹_›, below_keep hb8 (Nat.le_refl _) (Nat.lt_of_lt_of_le lt1 hb7.size) ‹_›⟩))
          (first
            | (go_at_call 30; refine (toWheel_any _ _ a len cap now l (HT.out.here (low_after HL6.out HD.out)) (Nat.le_refl _) HSM.out).mono ?_; rintro e w7 ⟨⟨a7, cap7, rfl, ho7⟩, hb7⟩)
            | (go_at_call 32; refine (eqWheel_yes _ _ a4 a7 l.length cap4 cap7 now l (((HWX6.out.below HD.out).below hb7).is) ho7.isN (Nat.le_refl _)).mono ?_; rintro e w8 ⟨rfl, hb8⟩))
        have hb68 : Below w6.heap.size w6 w8 := low_after (low_after HD.out hb7) hb8
        have HW08 := Lib.hid (HW06.out.below hb68)
        have HWX8 := Lib.hid (HWX6.out.below hb68)
        have HWG8 := Lib.hid (HWG6.out.below hb68)
        have HL8 := Lib.hid (low_after HL6.out hb68)
        clear hb7 hb8 hb68 ho7 c0 c1 lt0 d0 d1 lt1 HW06 HWX6 HWG6 HL6 HD
        obtain ⟨c0, c1, lt0⟩ := HWX8.out.cells
        go_wp2_with fail
        refine (markWheel_any _ E2 a4 l.length cap4 now l HWX8.out.own (by have := HLS.out; omega) (Nat.le_trans HWX8.out.lo (Nat.le_of_lt lt0))).mono ?_
        rintro e w9 ⟨rfl, ho9, hg9⟩
        have HW09 := Lib.hid (HW08.out.mark_lo hg9 (fun j hj => by have := HWX8.out.ge j hj; omega))
        have HWG9 := Lib.hid (HWG8.out.mark_hi hg9 (fun j hj => by have := HWX8.out.hi j hj; have := HK4.out; omega))
        have HL9 := Lib.hid (low_grown HL8.out hg9 (fun j hj => by have := HWX8.out.ge j hj; have := HLE2.out; omega))
        clear ho9 hg9 c0 c1 lt0 HW08 HWX8 HWG8 HL8
        obtain ⟨c0, c1, lt0⟩ := HWG9.out.cells
        obtain ⟨d0, d1, lt1⟩ := HW09.out.cells
        have hln : (l.length : Int) ≤ 1048576 := by have := HLS.out; omega
        have hnn : (n : Int) ≤ 1048640 := by have := HSL.out; omega
        go_wp2_with fail
        refine (eqWheel_yes _ _ a5 a3 n cap5 cap3 now S HWG9.out.is HW09.out.is (Nat.le_refl _)).mono ?_
        rintro e w10 ⟨rfl, hb10⟩
        have HW10 := Lib.hid (HW09.out.below hb10)
        have HWG10 := Lib.hid (HWG9.out.below hb10)
        have HL10 := Lib.hid (low_after HL9.out hb10)
        clear hb10 c0 c1 lt0 d0 d1 lt1 HW09 HWG9 HL9
        obtain ⟨c0, c1, lt0⟩ := HWG10.out.cells
        go_wp2_with fail
        refine (markWheel_any _ B5 a5 n cap5 now S HWG10.out.own (by have := HSL.out; omega) (Nat.le_trans HWG10.out.lo (Nat.le_of_lt lt0))).mono ?_
        rintro e w11 ⟨rfl, ho11, hg11⟩
        have HW11 := Lib.hid (HW10.out.mark_lo hg11 (fun j hj => by have := HWG10.out.ge j hj; have := HLO4.out; have := HK4.out; omega))
        have HWG11 := Lib.hid (HWG10.out.mark ho11 hg11)
        have HL11 := Lib.hid (low_grown HL10.out hg11 (fun j hj => by have := HWG10.out.ge j hj; have := HLB5.out; omega))
        clear ho11 hg11 c0 c1 lt0 HW10 HWG10 HL10
        obtain ⟨c0, c1, lt0⟩ := HWG11.out.cells
        go_wp2_with fail
        refine (heldWheel_any _ _ a5 n cap5 now HWG11.out.is (Nat.le_refl _) (by have := HSL.out; omega)).mono ?_
        rintro e w12 ⟨rfl, hb12⟩
        have HW12 := Lib.hid (HW11.out.below hb12)
        have HWG12 := Lib.hid (HWG11.out.below hb12)
        have HL12 := Lib.hid (low_after HL11.out hb12)
        clear hb12 c0 c1 lt0 HW11 HWG11 HL11
        have HAw12 := Lib.hid (HA.out.below HL12.out)
        have HTw12 := Lib.hid (HT2.out.below HL12.out)
        have HTIw12 := Lib.hid (HT.out.here HL12.out)
        have HTbw12 := Lib.hid (HTab.out.below HL12.out HTL.out)
        have HTLw12 := Lib.hid (Nat.lt_of_lt_of_le HTL.out HL12.out.size)
        go_upto_region 24 with fail
        have HKS := Lib.hid (fun w' (h : Below w12.heap.size w12 w') => And.intro (HAw12.out.below h).c0 (And.intro (HAw12.out.below h).c1 (And.intro (HTw12.out.below h).c0 (And.intro (HTw12.out.below h).c1 h))))
        have HD := Lib.hid (show Below w12.heap.size w12 w12.drew from below_drew' (Below.refl _ _))
        go_cut [14, 15] (fun s6 s7 wx => ∃ k a' cap', s6 = .pointer (some ⟨k, 0, none⟩) ∧ s7 = .bool ok ∧ Hid (Below w12.heap.size w12 wx) ∧ Hid (Wc wx k w12.heap.size wx.heap.size now a' n cap' S))
        case first =>
          go_region_held3 (fun w' => w'.cell? ⟨w.heap.size, 0, none⟩ = some (.int .i64 now) ∧ w'.cell? ⟨w.heap.size, 1, none⟩ = some (.slice a len cap) ∧ w'.cell? ⟨w.heap.size + 1, 0, none⟩ = some (.int .i64 x) ∧ w'.cell? ⟨w.heap.size + 1, 1, none⟩ = some (.int .i64 y) ∧ Below w12.heap.size w12 w')
            (first
              | exact HKS.out _ HD.out
              | exact HKS.out _ HLC.out
              | exact HKS.out _ HLB.out
              | exact HKS.out _ HLA.out
              | exact HKS.out _ (low_alloc HLC.out _)
              | exact HKS.out _ (low_alloc HLB.out _)
              | exact HKS.out _ (low_alloc HLA.out _)
              | exact HKS.out _ (low_alloc HD.out _)
              | exact HKS.out _ (low_put HLC.out HLB.out.size _ _)
              | exact HKS.out _ (low_put HLC.out HLA.out.size _ _)
              | exact HKS.out _ (low_put HLC.out HD.out.size _ _)
              | exact HKS.out _ (low_put HLC.out (Nat.le_refl _) _ _))
            (first
              | (go_at_call 30; refine (toWheel_any _ _ a len cap now l (HTIw12.out.here ((‹_ ∧ _ ∧ _ ∧ _ ∧ Below w12.heap.size w12 _›).2.2.2.2)) (Nat.le_refl _) HSM.out).mono ?_; rintro e wA ⟨⟨a2, cap2, rfl, ho2⟩, hbA⟩; have HLA := Lib.hid (low_after ((‹_ ∧ _ ∧ _ ∧ _ ∧ Below w12.heap.size w12 _›).2.2.2.2) hbA); (first | (have hbk := Bz.step1 HBK.out hbA; have HBK := Lib.hid hbk.1; have HKL := Lib.hid hbk.2; obtain ⟨z0, z1, g0, g1, zl⟩ := hbk.1.cells; clear hbk) | (have hbk := Bz.step2 hbA; have HBK := Lib.hid hbk.1; have HKL := Lib.hid hbk.2; obtain ⟨z0, z1, g0, g1, zl⟩ := hbk.1.cells; clear hbk) | (have hbk := Bz.step3 hbA; have HBK := Lib.hid hbk.1; have HKL := Lib.hid hbk.2; obtain ⟨z0, z1, g0, g1, zl⟩ := hbk.1.cells; clear hbk) | skip))
              | (go_at_call 31; refine (toTimer_any _ x y).mono ?_; rintro e wB ⟨rfl, hbB⟩; have HLB := Lib.hid (low_after ((‹_ ∧ _ ∧ _ ∧ _ ∧ Below w12.heap.size w12 _›).2.2.2.2) hbB); (first | (have hbk := Bz.step1 HBK.out hbB; have HBK := Lib.hid hbk.1; have HKL := Lib.hid hbk.2; obtain ⟨z0, z1, g0, g1, zl⟩ := hbk.1.cells; clear hbk) | (have hbk := Bz.step2 hbB; have HBK := Lib.hid hbk.1; have HKL := Lib.hid hbk.2; obtain ⟨z0, z1, g0, g1, zl⟩ := hbk.1.cells; clear hbk) | (have hbk := Bz.step3 hbB; have HBK := Lib.hid hbk.1; have HKL := Lib.hid hbk.2; obtain ⟨z0, z1, g0, g1, zl⟩ := hbk.1.cells; clear hbk) | skip))
              | (go_at_call 13; refine (setTimer_any _ a2 l.length cap2 now l x y (by first | exact ho2.isN | exact (ho2.below hbB).isN | exact (ho2.below (bOne _ _)).isN | exact ((ho2.below hbB).below (bOne _ _)).isN | exact ((ho2.below (bOne _ _)).below hbB).isN) HLS.out (HTbw12.out.below ((‹_ ∧ _ ∧ _ ∧ _ ∧ Below w12.heap.size w12 _›).2.2.2.2) HTLw12.out)).mono ?_; rintro e w3 ⟨⟨a3, cap3, rfl, ho3⟩, hbC⟩; rw [← HS.out, ← HN.out] at ho3 ⊢; rw [← HOK.out]; have HLC := Lib.hid (low_after ((‹_ ∧ _ ∧ _ ∧ _ ∧ Below w12.heap.size w12 _›).2.2.2.2) hbC); have HC3 := Lib.hid hbC; (first | (have hbk := Bz.step1 HBK.out hbC; have HBK := Lib.hid hbk.1; have HKL := Lib.hid hbk.2; obtain ⟨z0, z1, g0, g1, zl⟩ := hbk.1.cells; clear hbk) | (have hbk := Bz.step2 hbC; have HBK := Lib.hid hbk.1; have HKL := Lib.hid hbk.2; obtain ⟨z0, z1, g0, g1, zl⟩ := hbk.1.cells; clear hbk) | (have hbk := Bz.step3 hbC; have HBK := Lib.hid hbk.1; have HKL := Lib.hid hbk.2; obtain ⟨z0, z1, g0, g1, zl⟩ := hbk.1.cells; clear hbk) | skip)))
          all_goals
            go_wp2_with fail
            go_meet
            first
              | exact ⟨_, _, _, rfl, rfl, Lib.hid (low_alloc HLC.out _), Lib.hid (Wc.new ho3 (HLB.out.size) hbC.size now)⟩
              | exact ⟨_, _, _, rfl, rfl, Lib.hid (low_put HLC.out (by first | exact HLB.out.size | exact HLA.out.size | exact HD.out.size | exact Nat.le_refl _) _ _), Lib.hid (Wc.put HBK.out ho3 HKL.out (by first | exact HLB.out.size | exact HLA.out.size | exact HD.out.size | exact Nat.le_refl _) now)⟩
        case rest =>
          obtain ⟨k14, a14, cap14, rfl, rfl, HB14, HWH⟩ := hcut
          obtain ⟨V6, hV6⟩ : ∃ V, V = wc := ⟨_, rfl⟩
          rw [← hV6] at HB14 HWH ⊢
          clear hV6
          have HW14 := Lib.hid (HW12.out.below HB14.out)
          have HWG14 := Lib.hid (HWG12.out.below HB14.out)
          have HL14 := Lib.hid (low_after HL12.out HB14.out)
          clear HB14 HW12 HWG12 HL12 HAw12 HTw12 HTIw12 HTbw12 HTLw12
          obtain ⟨c0, c1, lt0⟩ := HWH.out.cells
          obtain ⟨d0, d1, lt1⟩ := HW14.out.cells
          go_wp2_with fail
          refine (eqWheel_yes _ _ a14 a3 n cap14 cap3 now S HWH.out.is HW14.out.is (Nat.le_refl _)).mono ?_
          rintro e w15 ⟨rfl, hb15⟩
          have HWG15 := Lib.hid (HWG14.out.below hb15)
          have HL15 := Lib.hid (low_after HL14.out hb15)
          clear hb15 c0 c1 lt0 d0 d1 lt1 HW14 HWG14 HWH HL14
          obtain ⟨c0, c1, lt0⟩ := HWG15.out.cells
          go_wp2_with fail
          refine (heldWheel_any _ _ a5 n cap5 now HWG15.out.is (Nat.le_refl _) (by have := HSL.out; omega)).mono ?_
          rintro e w16 ⟨rfl, hb16⟩
          have HL16 := Lib.hid (low_after HL15.out hb16)
          clear hb16 c0 c1 lt0 HWG15 HL15
          go_wp2_with fail
          go_ret
          exact ⟨rfl, bAfter HBX.out HL16.out HBX.out.size⟩
end Go.Proofs.YtkoliacbajpijaaDoor.Whl
