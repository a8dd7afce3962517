/-
  The walk of the law FnExactJoin.
-/
import Derived.Test.YtjfhdelphfgojaaLxA
import Derived.Test.YtjfhdelphfgojaaLkE
import Derived.Test.YtjfhdelphfgojaaLkQ
namespace Go.Proofs.Ytjfhdelphfgojaa.Lnk
open Go.RowKit
set_option linter.unusedVariables false

set_option maxRecDepth 100000 in
set_option maxHeartbeats 2000000 in
theorem exactJoin_walk (w : World) (a : Option Addr) (len cap : Nat) (up : Bool) (ep sq : Int) (l : List Y) (h : YIs w.heap.size w a len l) :
    Calls Try.prog 14 #[.agg #[.bool up, .int .i64 ep, .int .i64 sq, .slice a len cap]] w fun en w' => en = .returned (.bool true) ∧ Below w.heap.size w w' := by
  have hle := h.le
  have hll := h.hlen
  have hb0 := bOne w (.cells #[.bool up, .int .i64 ep, .int .i64 sq, .slice a len cap] 46)
  have HT := Lib.hid (h.here hb0)
  have HLE := Lib.hid hle
  have HA := Lib.hid (B4.new w up ep sq (.slice a len cap) 46)
  have HBX := Lib.hid hb0
  have HLL := Lib.hid hll
  clear h hle hb0 hll
  go_enter Try.func14, Try.ntmps14
  by_cases hbig : 1048576 < len
  · have HBG := Lib.hid hbig
    clear hbig
    go_wp2_with fail
    refine (szLink_big _ a len cap up ep sq HLE.out HBG.out).mono ?_
    rintro en w1 ⟨rfl, hb1⟩
    have HB1 := Lib.hid hb1
    clear hb1
    go_wp2_with fail
    go_ret
    exact ⟨rfl, bAfter HBX.out HB1.out (by simp)⟩
  · have HSM := Lib.hid (show len ≤ 1048576 by omega)
    clear hbig
    obtain ⟨W, hW⟩ : ∃ W, W = w.alloc (.cells #[.bool up, .int .i64 ep, .int .i64 sq, .slice a len cap] 46) := ⟨_, rfl⟩
    rw [← hW] at HT HA HBX
    have HWE := Lib.hid hW
    clear hW
    have HLS := Lib.hid (show l.length ≤ 1048576 by have := HSM.out; have := HLL.out; omega)
    go_wp2_with fail
    rw [← HWE.out]
    refine (szLink_small _ a len cap up ep sq HSM.out).mono ?_
    rintro en w1 ⟨⟨z, hz0, rfl⟩, hb1⟩
    have HL1 := Lib.hid hb1
    clear hb1
    obtain ⟨c0, c1, c2, c3, lt0⟩ := (HA.out.below HL1.out).cells
    go_wp2_with fail
    refine (toLink_any _ _ a len cap up ep sq l (HT.out.here HL1.out) (Nat.le_refl _) HSM.out).mono ?_
    rintro en w2 ⟨⟨a2, cap2, rfl, ho2⟩, hb2⟩
    have HL2 := Lib.hid (low_after HL1.out hb2)
    have HO2 := Lib.hid ho2
    clear hb2 ho2 c0 c1 c2 c3 lt0 HL1
    go_wp2_with fail
    refine (specJoin_any w2 a2 l.length cap2 up ep sq l HO2.out.isN HLS.out HO2.out.nilcap).mono ?_
    rintro en w3 ⟨⟨a3, cap3, ai3, ci3, rfl, ho3, hi3⟩, hb3⟩
    obtain ⟨S, hS⟩ : ∃ S, S = joL up ep sq l := ⟨_, rfl⟩
    have HS := Lib.hid hS
    have HSL := Lib.hid (show S.length ≤ 1048577 by rw [hS]; exact Nat.le_trans (joL_len _ _ _ _) (by have := HLS.out; omega))
    obtain ⟨n, hn⟩ : ∃ n, n = S.length := ⟨_, rfl⟩
    have HN := Lib.hid hn
    obtain ⟨pu, hpu⟩ : ∃ x, x = joU up ep sq l := ⟨_, rfl⟩
    obtain ⟨pe, hpe⟩ : ∃ x, x = joE up ep sq l := ⟨_, rfl⟩
    obtain ⟨pq, hpq⟩ : ∃ x, x = joS up ep sq l := ⟨_, rfl⟩
    have HPU := Lib.hid hpu
    have HPE := Lib.hid hpe
    have HPQ := Lib.hid hpq
    obtain ⟨I, hI⟩ : ∃ I, I = joI up ep sq l := ⟨_, rfl⟩
    have HI := Lib.hid hI
    have HIL := Lib.hid (show I.length ≤ 1048576 by rw [hI]; exact Nat.le_trans (joI_len _ _ _ _) HLS.out)
    obtain ⟨m, hm⟩ : ∃ m, m = I.length := ⟨_, rfl⟩
    have HM := Lib.hid hm
    rw [← HS.out, ← HN.out] at ho3 ⊢
    rw [← HI.out, ← HM.out] at hi3 ⊢
    rw [← HPU.out]
    rw [← HPE.out]
    rw [← HPQ.out]
    rw [← HN.out] at HSL
    rw [← HM.out] at HIL
    have hl3 := low_after HL2.out hb3
    have HW0 := Lib.hid (W4.new ho3 hb3.size pu pe pq)
    have HI0 := Lib.hid (Ib.new hi3 (.cells #[.bool pu, .int .i64 pe, .int .i64 pq, .slice a3 n cap3] 26))
    have HL3 := Lib.hid (low_alloc hl3 (.cells #[.bool pu, .int .i64 pe, .int .i64 pq, .slice a3 n cap3] 26))
    clear hb3 ho3 hi3 hS hn hl3 HL2 HO2 hI hm
    clear hpu hpe hpq
    obtain ⟨c0, c1, c2, c3, lt0⟩ := (HA.out.below HL3.out).cells
    go_wp2_with fail
    refine (toLink_any _ _ a len cap up ep sq l (HT.out.here HL3.out) (Nat.le_refl _) HSM.out).mono ?_
    rintro en w4 ⟨⟨a4, cap4, rfl, ho4⟩, hb4⟩
    have HW0' := Lib.hid ((HW0.out.below hb4).below (bOne w4 (.cells #[.bool up, .int .i64 ep, .int .i64 sq, .slice a4 l.length cap4] 26)))
    have HI0' := Lib.hid ((HI0.out.below hb4).below (bOne w4 (.cells #[.bool up, .int .i64 ep, .int .i64 sq, .slice a4 l.length cap4] 26)))
    have HWX := Lib.hid (W4.new ho4 hb4.size up ep sq)
    have HL4 := Lib.hid (low_alloc (low_after HL3.out hb4) (.cells #[.bool up, .int .i64 ep, .int .i64 sq, .slice a4 l.length cap4] 26))
    have HK0 := Lib.hid (show w3.heap.size < (w3.alloc (.cells #[.bool pu, .int .i64 pe, .int .i64 pq, .slice a3 n cap3] 26)).heap.size by simp)
    obtain ⟨B4', hB4⟩ : ∃ B, B = (w3.alloc (.cells #[.bool pu, .int .i64 pe, .int .i64 pq, .slice a3 n cap3] 26)).heap.size := ⟨_, rfl⟩
    rw [← hB4] at HWX HK0
    have HLB4 := Lib.hid (show W.heap.size ≤ B4' by rw [hB4]; exact HL3.out.size)
    clear hb4 ho4 c0 c1 c2 c3 lt0 HW0 HI0 HL3 hB4
    obtain ⟨d0, d1, d2, d3, lt1⟩ := HWX.out.cells
    go_wp2_with fail
    refine (join_any _ a4 l.length cap4 up ep sq l HWX.out.is HLS.out).mono ?_
    rintro en w5 ⟨⟨a5, cap5, ai5, ci5, rfl, ho5, hi5⟩, hb5⟩
    rw [← HS.out, ← HN.out] at ho5 ⊢
    rw [← HI.out, ← HM.out] at hi5 ⊢
    rw [← HPU.out]
    rw [← HPE.out]
    rw [← HPQ.out]
    have HW0 := Lib.hid ((HW0'.out.below hb5).below (bOne w5 (.cells #[.bool pu, .int .i64 pe, .int .i64 pq, .slice a5 n cap5] 26)))
    have HI0 := Lib.hid ((HI0'.out.below hb5).below (bOne w5 (.cells #[.bool pu, .int .i64 pe, .int .i64 pq, .slice a5 n cap5] 26)))
    have HWX' := Lib.hid ((HWX.out.below hb5).below (bOne w5 (.cells #[.bool pu, .int .i64 pe, .int .i64 pq, .slice a5 n cap5] 26)))
    have HWG := Lib.hid (W4.new ho5 hb5.size pu pe pq)
    have HIG := Lib.hid (Ib.new hi5 (.cells #[.bool pu, .int .i64 pe, .int .i64 pq, .slice a5 n cap5] 26))
    have HL5 := Lib.hid (low_alloc (low_after HL4.out hb5) (.cells #[.bool pu, .int .i64 pe, .int .i64 pq, .slice a5 n cap5] 26))
    have HK4 := Lib.hid (HWX.out.box.lt)
    have HLO4 := Lib.hid (HWX.out.lo)
    obtain ⟨B5, hB5⟩ : ∃ B, B = (w4.alloc (.cells #[.bool up, .int .i64 ep, .int .i64 sq, .slice a4 l.length cap4] 26)).heap.size := ⟨_, rfl⟩
    rw [← hB5] at HWG HIG HK4
    have HLB5 := Lib.hid (show W.heap.size ≤ B5 by rw [hB5]; exact HL4.out.size)
    clear hb5 ho5 hi5 d0 d1 d2 d3 lt1 HW0' HI0' HWX HL4 hB5
    have hbb : (pu != pu) = false := by simp
    obtain ⟨c0, c1, c2, c3, lt0⟩ := HWG.out.cells
    obtain ⟨d0, d1, d2, d3, lt1⟩ := HW0.out.cells
    go_wp2_with fail
    refine (eqLink_yes _ _ a5 a3 n cap5 cap3 pu pe pq S HWG.out.is HW0.out.is (Nat.le_refl _)).mono ?_
    rintro en w5' ⟨rfl, hb5'⟩
    have HI0' := Lib.hid (HI0.out.below hb5')
    have HIG' := Lib.hid (HIG.out.below hb5')
    have HB5' := Lib.hid hb5'
    clear hb5' c0 c1 c2 c3 lt0 d0 d1 d2 d3 lt1 HI0 HIG
    go_wp2_with fail
    refine (eqIntS_yes _ _ ai5 ai3 m ci5 ci3 I HIG'.out.is HI0'.out.is (by have := HIL.out; omega) (Nat.le_refl _)).mono ?_
    rintro en w6 ⟨rfl, hb6'⟩
    have hb6 := low_after HB5'.out hb6'
    have HI06 := Lib.hid (HI0'.out.below hb6')
    have HIG6 := Lib.hid (HIG'.out.below hb6')
    clear hb6' 
    have HW06 := Lib.hid (HW0.out.below hb6)
    have HWX6 := Lib.hid (HWX'.out.below hb6)
    have HWG6 := Lib.hid (HWG.out.below hb6)
    have HL6 := Lib.hid (low_after HL5.out hb6)
    clear hb6 HW0 HWX' HWG HL5 HB5' HI0' HIG'
    obtain ⟨c0, c1, c2, c3, lt0⟩ := (HA.out.below HL6.out).cells
    obtain ⟨d0, d1, d2, d3, lt1⟩ := HWX6.out.cells
    go_wp2_with fail
    have HD := Lib.hid (show Below w6.heap.size w6 w6.drew from below_drew' (Below.refl _ _))
    go_region_held3 (fun w' => w'.cell? ⟨w.heap.size, 0, none⟩ = some (.bool up) ∧ w'.cell? ⟨w.heap.size, 1, none⟩ = some (.int .i64 ep) ∧ w'.cell? ⟨w.heap.size, 2, none⟩ = some (.int .i64 sq) ∧ w'.cell? ⟨w.heap.size, 3, none⟩ = some (.slice a len cap) ∧ w'.cell? ⟨w4.heap.size, 0, none⟩ = some (.bool up) ∧ w'.cell? ⟨w4.heap.size, 1, none⟩ = some (.int .i64 ep) ∧ w'.cell? ⟨w4.heap.size, 2, none⟩ = some (.int .i64 sq) ∧ w'.cell? ⟨w4.heap.size, 3, none⟩ = some (.slice a4 l.length cap4))
      (first
        | go_keep
        | (go_split_ands; exact ⟨below_keep hb7 (Nat.le_refl _) lt0 ‹_›, below_keep hb7 (Nat.le_refl _) lt0 ‹_›, below_keep hb7 (Nat.le_refl _) lt0 ‹_›, below_keep hb7 (Nat.le_refl _) lt0 ‹_›, below_keep hb7 (Nat.le_refl _) lt1 ‹_›, below_keep hb7 (Nat.le_refl _) lt1 ‹_›, below_keep hb7 (Nat.le_refl _) lt1 ‹_›, below_keep hb7 (Nat.le_refl _) lt1 ‹_›⟩)
        | (go_split_ands; exact ⟨below_keep hb8 (Nat.le_refl _) (Nat.lt_of_lt_of_le lt0 hb7.size) ‹_›, below_keep hb8 (Nat.le_refl _) (Nat.lt_of_lt_of_le lt0 hb7.size) ‹_›, below_keep hb8 (Nat.le_refl _) (Nat.lt_of_lt_of_le lt0 hb7.size) ‹_›, below_keep hb8 (Nat.le_refl _) (Nat.lt_of_lt_of_le lt0 hb7.size) ‹_›, below_keep hb8 (Nat.le_refl _) (Nat.lt_of_lt_of_le lt1 hb7.size) ‹_›, below_keep hb8 (Nat.le_refl _) (Nat.lt_of_lt_of_le lt1 hb7.size) ‹_›, below_keep hb8 (Nat.le_refl _) (Nat.lt_of_lt_of_le lt1 hb7.size) ‹_›, below_keep hb8 (Nat.le_refl _) (Nat.lt_of_lt_of_le lt1 hb7.size) ‹_›⟩))
      (first
        | (go_at_call 41; refine (toLink_any _ _ a len cap up ep sq l (HT.out.here (low_after HL6.out HD.out)) (Nat.le_refl _) HSM.out).mono ?_; rintro en w7 ⟨⟨a7, cap7, rfl, ho7⟩, hb7⟩)
        | (go_at_call 42; refine (eqLink_yes _ _ a4 a7 l.length cap4 cap7 up ep sq l (((HWX6.out.below HD.out).below hb7).is) ho7.isN (Nat.le_refl _)).mono ?_; rintro en w8 ⟨rfl, hb8⟩))
    have hb68 : Below w6.heap.size w6 w8 := low_after (low_after HD.out hb7) hb8
    have HW08 := Lib.hid (HW06.out.below hb68)
    have HWX8 := Lib.hid (HWX6.out.below hb68)
    have HWG8 := Lib.hid (HWG6.out.below hb68)
    have HL8 := Lib.hid (low_after HL6.out hb68)
    have HI08 := Lib.hid (HI06.out.below hb68)
    have HIG8 := Lib.hid (HIG6.out.below hb68)
    clear hb7 hb8 hb68 ho7 c0 c1 c2 c3 lt0 d0 d1 d2 d3 lt1 HW06 HWX6 HWG6 HL6 HD HI06 HIG6
    obtain ⟨c0, c1, c2, c3, lt0⟩ := HWX8.out.cells
    have hln : (l.length : Int) ≤ 1048576 := by have := HLS.out; omega
    have hnn : (n : Int) ≤ 1048577 := by have := HSL.out; omega
    have hmm : (m : Int) ≤ 1048576 := by have := HIL.out; omega
    go_wp2_with fail
    refine (markLink_any _ B4' a4 l.length cap4 up ep sq l HWX8.out.own (by have := HLS.out; omega) (Nat.le_trans HWX8.out.lo (Nat.le_of_lt lt0))).mono ?_
    rintro en w9 ⟨rfl, ho9, hg9⟩
    have HW09 := Lib.hid (HW08.out.mark_lo hg9 (fun j hj => by have := HWX8.out.ge j hj; have := HK0.out; omega))
    have HWG9 := Lib.hid (HWG8.out.mark_hi hg9 (fun j hj => by have := HWX8.out.hi j hj; have := HK4.out; omega))
    have HI09 := Lib.hid (HI08.out.mark_lo hg9 (fun j hj => by have := HWX8.out.ge j hj; have := HK0.out; omega))
    have HIG9 := Lib.hid (HIG8.out.mark_hi hg9 (fun j hj => by have := HWX8.out.hi j hj; have := HK4.out; omega))
    have HL9 := Lib.hid (low_grown HL8.out hg9 (fun j hj => by have := HWX8.out.ge j hj; have := HLB4.out; omega))
    clear ho9 hg9 c0 c1 c2 c3 lt0 HW08 HWG8 HWX8 HL8 HI08 HIG8
    obtain ⟨c0, c1, c2, c3, lt0⟩ := HWG9.out.cells
    obtain ⟨d0, d1, d2, d3, lt1⟩ := HW09.out.cells
    go_wp2_with fail
    refine (eqLink_yes _ _ a5 a3 n cap5 cap3 pu pe pq S HWG9.out.is HW09.out.is (Nat.le_refl _)).mono ?_
    rintro en w9' ⟨rfl, hb9'⟩
    have HI09' := Lib.hid (HI09.out.below hb9')
    have HIG9' := Lib.hid (HIG9.out.below hb9')
    have HB9' := Lib.hid hb9'
    clear hb9' c0 c1 c2 c3 lt0 d0 d1 d2 d3 lt1 HI09 HIG9
    go_wp2_with fail
    refine (eqIntS_yes _ _ ai5 ai3 m ci5 ci3 I HIG9'.out.is HI09'.out.is (by have := HIL.out; omega) (Nat.le_refl _)).mono ?_
    rintro en w10 ⟨rfl, hb10'⟩
    have hb10 := low_after HB9'.out hb10'
    have HI10 := Lib.hid (HI09'.out.below hb10')
    have HIG10 := Lib.hid (HIG9'.out.below hb10')
    clear hb10' 
    have HW10 := Lib.hid (HW09.out.below hb10)
    have HWG10 := Lib.hid (HWG9.out.below hb10)
    have HL10 := Lib.hid (low_after HL9.out hb10)
    clear hb10 HW09 HWG9 HL9 HB9' HI09' HIG9'
    obtain ⟨c0, c1, c2, c3, lt0⟩ := HWG10.out.cells
    go_wp2_with fail
    refine (markLink_any _ B5 a5 n cap5 pu pe pq S HWG10.out.own (by have := HSL.out; omega) (Nat.le_trans HWG10.out.lo (Nat.le_of_lt lt0))).mono ?_
    rintro en w11 ⟨rfl, ho11, hg11⟩
    have HW11 := Lib.hid (HW10.out.mark_lo hg11 (fun j hj => by have := HWG10.out.ge j hj; have := HK0.out; have := HLO4.out; have := HK4.out; omega))
    have HI11 := Lib.hid (HI10.out.mark_lo hg11 (fun j hj => by have := HWG10.out.ge j hj; have := HK0.out; have := HLO4.out; have := HK4.out; omega))
    have HIG11 := Lib.hid (HIG10.out.mark_t HWG10.out.own hg11)
    have HWG11 := Lib.hid (HWG10.out.mark ho11 hg11)
    have HL11 := Lib.hid (low_grown HL10.out hg11 (fun j hj => by have := HWG10.out.ge j hj; have := HLB5.out; omega))
    clear ho11 hg11 c0 c1 c2 c3 lt0 HW10 HWG10 HL10 HI10 HIG10
    go_wp2_with fail
    refine (markIntS_any _ B5 ai5 m ci5 I (1 + 3 * (n : Int)) HIG11.out.own (by have := HIL.out; omega) (by omega) (by omega)).mono ?_
    rintro en w11' ⟨rfl, hi11, hg11⟩
    have HW11' := Lib.hid (HW11.out.mark_lo hg11 (fun j hj => by have := HIG11.out.ge j hj; have := HK0.out; have := HLO4.out; have := HK4.out; omega))
    have HI11' := Lib.hid (HI11.out.mark_lo hg11 (fun j hj => by have := HIG11.out.ge j hj; have := HK0.out; have := HLO4.out; have := HK4.out; omega))
    have HWG11' := Lib.hid (HWG11.out.mark_i HIG11.out (Nat.le_refl _) hg11)
    have HL11' := Lib.hid (low_grown HL11.out hg11 (fun j hj => by have := HIG11.out.ge j hj; have := HLB5.out; omega))
    have HIG11' := Lib.hid (HIG11.out.mark hi11)
    clear hi11 hg11 HW11 HI11 HWG11 HL11 HIG11
    obtain ⟨c0, c1, c2, c3, lt0⟩ := HWG11'.out.cells
    go_wp2_with fail
    refine (heldLink_any _ _ a5 n cap5 pu pe pq HWG11'.out.is (Nat.le_refl _) (by have := HSL.out; omega)).mono ?_
    rintro en w12 ⟨rfl, hb12⟩
    have HW12 := Lib.hid (HW11'.out.below hb12)
    have HWG12 := Lib.hid (HWG11'.out.below hb12)
    have HL12 := Lib.hid (low_after HL11'.out hb12)
    have HI12 := Lib.hid (HI11'.out.below hb12)
    have HIG12 := Lib.hid (HIG11'.out.below hb12)
    clear hb12 c0 c1 c2 c3 lt0 HW11' HWG11' HL11' HI11' HIG11'
    go_wp2_with fail
    refine (heldIntS_any _ _ ai5 m ci5 (1 + 3 * (n : Int)) HIG12.out.is (by have := HIL.out; omega) (by omega) (by omega)).mono ?_
    rintro en w12' ⟨rfl, rfl⟩
    obtain ⟨c0, c1, c2, c3, lt0⟩ := (HA.out.below HL12.out).cells
    go_wp2_with fail
    refine (toLink_any _ _ a len cap up ep sq l (HT.out.here HL12.out) (Nat.le_refl _) HSM.out).mono ?_
    rintro en w13 ⟨⟨a13, cap13, rfl, ho13⟩, hb13⟩
    have HW13 := Lib.hid (HW12.out.below hb13)
    have HWG13 := Lib.hid (HWG12.out.below hb13)
    have HL13 := Lib.hid (low_after HL12.out hb13)
    have HO13 := Lib.hid ho13
    have HI13 := Lib.hid (HI12.out.below hb13)
    have HIG13 := Lib.hid (HIG12.out.below hb13)
    clear hb13 ho13 c0 c1 c2 c3 lt0 HW12 HWG12 HL12 HI12 HIG12
    go_wp2_with fail
    refine (join_any _ a13 l.length cap13 up ep sq l HO13.out.isN HLS.out).mono ?_
    rintro en w14 ⟨⟨a14, cap14, ai14, ci14, rfl, ho14, hi14⟩, hb14⟩
    rw [← HS.out, ← HN.out] at ho14 ⊢
    rw [← HI.out, ← HM.out] at hi14 ⊢
    rw [← HPU.out]
    rw [← HPE.out]
    rw [← HPQ.out]
    have HW14 := Lib.hid ((HW13.out.below hb14).below (bOne w14 (.cells #[.bool pu, .int .i64 pe, .int .i64 pq, .slice a14 n cap14] 26)))
    have HWG14 := Lib.hid ((HWG13.out.below hb14).below (bOne w14 (.cells #[.bool pu, .int .i64 pe, .int .i64 pq, .slice a14 n cap14] 26)))
    have HWH := Lib.hid (W4.new ho14 hb14.size pu pe pq)
    have HL14 := Lib.hid (low_alloc (low_after HL13.out hb14) (.cells #[.bool pu, .int .i64 pe, .int .i64 pq, .slice a14 n cap14] 26))
    have HI14 := Lib.hid ((HI13.out.below hb14).below (bOne w14 (.cells #[.bool pu, .int .i64 pe, .int .i64 pq, .slice a14 n cap14] 26)))
    have HIG14 := Lib.hid ((HIG13.out.below hb14).below (bOne w14 (.cells #[.bool pu, .int .i64 pe, .int .i64 pq, .slice a14 n cap14] 26)))
    have HIH := Lib.hid (Ib.new hi14 (.cells #[.bool pu, .int .i64 pe, .int .i64 pq, .slice a14 n cap14] 26))
    clear hb14 ho14 hi14 HW13 HWG13 HL13 HO13 HI13 HIG13
    obtain ⟨c0, c1, c2, c3, lt0⟩ := HWH.out.cells
    obtain ⟨d0, d1, d2, d3, lt1⟩ := HW14.out.cells
    go_wp2_with fail
    refine (eqLink_yes _ _ a14 a3 n cap14 cap3 pu pe pq S HWH.out.is HW14.out.is (Nat.le_refl _)).mono ?_
    rintro en w14' ⟨rfl, hb14'⟩
    have HI14' := Lib.hid (HI14.out.below hb14')
    have HIH' := Lib.hid (HIH.out.below hb14')
    have HB14' := Lib.hid hb14'
    clear hb14' c0 c1 c2 c3 lt0 d0 d1 d2 d3 lt1 HI14 HIH
    go_wp2_with fail
    refine (eqIntS_yes _ _ ai14 ai3 m ci14 ci3 I HIH'.out.is HI14'.out.is (by have := HIL.out; omega) (Nat.le_refl _)).mono ?_
    rintro en w15 ⟨rfl, hb15'⟩
    have hb15 := low_after HB14'.out hb15'
    have HIG15 := Lib.hid (HIG14.out.below hb15)
    clear hb15' 
    have HWG15 := Lib.hid (HWG14.out.below hb15)
    have HL15 := Lib.hid (low_after HL14.out hb15)
    clear hb15 HW14 HWG14 HWH HL14 HB14' HI14' HIH' HIG14
    obtain ⟨c0, c1, c2, c3, lt0⟩ := HWG15.out.cells
    go_wp2_with fail
    refine (heldLink_any _ _ a5 n cap5 pu pe pq HWG15.out.is (Nat.le_refl _) (by have := HSL.out; omega)).mono ?_
    rintro en w16 ⟨rfl, hb16⟩
    have HL16 := Lib.hid (low_after HL15.out hb16)
    have HIG16 := Lib.hid (HIG15.out.below hb16)
    clear hb16 c0 c1 c2 c3 lt0 HWG15 HL15 HIG15
    go_wp2_with fail
    refine (heldIntS_any _ _ ai5 m ci5 (1 + 3 * (n : Int)) HIG16.out.is (by have := HIL.out; omega) (by omega) (by omega)).mono ?_
    rintro en w16' ⟨rfl, rfl⟩
    go_wp2_with fail
    go_ret
    exact ⟨rfl, bAfter HBX.out HL16.out (Nat.le_of_lt (by have := HA.out.lt; exact this))⟩
end Go.Proofs.Ytjfhdelphfgojaa.Lnk
