/-
  The walk of the law FnTurn.
-/
import Derived.Test.YtkoliacbajpijaaDoorDwhW
import Derived.Test.YtkoliacbajpijaaDoorFtuA
import Derived.Test.YtkoliacbajpijaaDoorEtrW
import Derived.Test.YtkoliacbajpijaaDoorBig
namespace Go.Proofs.YtkoliacbajpijaaDoor.Whl
open Go.RowKit Go.Maps Go.Proofs.YtkoliacbajpijaaDoor.Kit Go.Proofs.YtkoliacbajpijaaDoor.Draw
set_option linter.unusedVariables false
set_option linter.unusedSimpArgs false

set_option maxRecDepth 100000 in
set_option maxHeartbeats 4000000 in
theorem fnTurn_walk (w : World) (a0 : Option Addr) (len0 cap0 : Nat) (zs : List Int) (hrow : IsRow .u8 w a0 len0 cap0 zs) (hT : TabD w) :
    Calls Tryd.prog 5 #[.slice a0 len0 cap0] w fun e w' => e = .returned (.bool true) ∧ Below w.heap.size w w' := by
  have hcode := hrow.code
  have hle := hcode.le
  have HC := Lib.hid hcode
  have HT := Lib.hid hT
  have HTL := Lib.hid hT.lt
  have HLE := Lib.hid hle
  clear hrow hcode hT hle
  go_enter Tryd.func5, Tryd.ntmps5
  by_cases hbig : (1048576 : Int) < (len0 : Int)
  · go_wp2_with fail
    refine (big_yes _ a0 len0 cap0 HLE.out hbig).mono ?_
    rintro e w' ⟨rfl, rfl⟩
    go_wp2_with fail
    go_ret
    exact ⟨rfl, Below.refl _ _⟩
  go_wp2_with fail
  refine (big_no _ a0 len0 cap0 HLE.out (by omega)).mono ?_
  rintro e w' ⟨rfl, rfl⟩
  clear hbig
  go_wp2_with fail
  refine (drawTurn_draw _ w.heap.size a0 len0 cap0 HC.out (Nat.le_refl _)).mono ?_
  rintro e w1 ⟨now, a, n, cap, l, tt, rfl, hdw, hb1⟩
  obtain rfl : n = l.length := hdw.len
  have HW := Lib.hid (Wb.new hdw.own hb1.size now)
  have hl62 := hdw.le
  have HL1 := Lib.hid (low_alloc hb1 (.cells #[.int .i64 now, .slice a l.length cap] 26))
  clear hdw hb1
  obtain ⟨c0, c1, lt0⟩ := HW.out.cells
  go_wp2_with fail
  refine (turnWheel_any _ a l.length cap now l tt HW.out.is (by omega) (HT.out.below HL1.out HTL.out)).mono ?_
  rintro e w2 ⟨⟨a2, cap2, vi2, rfl, ho2, hi2⟩, hb2⟩
  obtain ⟨ai2, ci2, rfl⟩ := hi2.shape
  obtain ⟨S, hS⟩ : ∃ S, S = trnR now l tt := ⟨_, rfl⟩
  have HS := Lib.hid hS
  obtain ⟨I, hI⟩ : ∃ I, I = trnI now l tt := ⟨_, rfl⟩
  have HI := Lib.hid hI
  obtain ⟨nw, hnw⟩ : ∃ nw, nw = trnN now l tt := ⟨_, rfl⟩
  have HNW := Lib.hid hnw
  have hs62 : S.length ≤ 62 := by rw [hS]; exact Nat.le_trans (trnR_len now l tt) hl62
  have hi62 : I.length ≤ 62 := by rw [hI]; exact Nat.le_trans (trnI_len now l tt) hl62
  rw [← hS] at ho2 ⊢
  rw [← hI] at hi2 ⊢
  rw [← hnw]
  have HV2 := Lib.hid (Wb.new ho2 hb2.size nw)
  have HI2 := Lib.hid (Ib.new hi2 (.cells #[.int .i64 nw, .slice a2 S.length cap2] 26))
  have HW2 := Lib.hid ((HW.out.below hb2).below (bOne w2 (.cells #[.int .i64 nw, .slice a2 S.length cap2] 26)))
  have HL2 := Lib.hid (low_alloc (low_after HL1.out hb2) (.cells #[.int .i64 nw, .slice a2 S.length cap2] 26))
  clear ho2 hi2 hb2 hS hI hnw c0 c1 lt0 HW HL1
  obtain ⟨c0, c1, lt0⟩ := HW2.out.cells
  go_wp2_with fail
  refine (specTurnWheel_any _ a l.length cap now l tt HW2.out.is (by omega) HW2.out.own.nilcap).mono ?_
  rintro e w3 ⟨⟨a3, cap3, vi3, rfl, ho3, hi3⟩, hb3⟩
  obtain ⟨ai3, ci3, rfl⟩ := hi3.shape
  rw [← HS.out] at ho3 ⊢
  rw [← HI.out] at hi3 ⊢
  rw [← HNW.out]
  have HU3 := Lib.hid (Wb.new ho3 hb3.size nw)
  have HJ3 := Lib.hid (Ib.new hi3 (.cells #[.int .i64 nw, .slice a3 S.length cap3] 26))
  have HW3 := Lib.hid ((HW2.out.below hb3).below (bOne w3 (.cells #[.int .i64 nw, .slice a3 S.length cap3] 26)))
  have HV3 := Lib.hid ((HV2.out.below hb3).below (bOne w3 (.cells #[.int .i64 nw, .slice a3 S.length cap3] 26)))
  have HI3 := Lib.hid ((HI2.out.below hb3).below (bOne w3 (.cells #[.int .i64 nw, .slice a3 S.length cap3] 26)))
  have HL3 := Lib.hid (low_alloc (low_after HL2.out hb3) (.cells #[.int .i64 nw, .slice a3 S.length cap3] 26))
  clear ho3 hi3 hb3 c0 c1 lt0 HW2 HV2 HI2 HL2
  obtain ⟨c0, c1, lt0⟩ := HV3.out.cells
  obtain ⟨d0, d1, lt1⟩ := HU3.out.cells
  go_wp2_with fail
  refine (sameWheel_yes _ _ a2 a3 S.length cap2 cap3 nw S HV3.out.is HU3.out.is (by omega) (Nat.le_refl _)).mono ?_
  rintro e w4 ⟨rfl, hb4⟩
  have HI4 := Lib.hid (HI3.out.below hb4)
  have HJ4 := Lib.hid (HJ3.out.below hb4)
  have HB4 := Lib.hid hb4
  clear hb4 c0 c1 lt0 d0 d1 lt1
  go_wp2_with fail
  refine (sameInts_yes _ _ ai2 ai3 I.length ci2 ci3 I HI4.out.is HJ4.out.is (by omega) (Nat.le_refl _)).mono ?_
  rintro e w5 ⟨rfl, hb5⟩
  have HB5 := Lib.hid (low_after HB4.out hb5)
  have HW5 := Lib.hid (HW3.out.below HB5.out)
  have HV5 := Lib.hid (HV3.out.below HB5.out)
  have HI5 := Lib.hid (HI3.out.below HB5.out)
  have HL5 := Lib.hid (low_after HL3.out HB5.out)
  clear hb5 HW3 HV3 HI3 HU3 HJ3 HI4 HJ4 HB4 HB5 HL3
  obtain ⟨kw, hkw⟩ : ∃ k, k = w1.heap.size := ⟨_, rfl⟩
  obtain ⟨kv, hkv⟩ : ∃ k, k = w2.heap.size := ⟨_, rfl⟩
  rw [← hkw] at HW5 ⊢
  rw [← hkv] at HV5 HI5 ⊢
  clear hkw hkv
  obtain ⟨c0, c1, lt0⟩ := HW5.out.cells
  obtain ⟨d0, d1, lt1⟩ := HV5.out.cells
  go_wp2_with fail
  refine (specWheelOk_any _ a l.length cap now l HW5.out.is).mono ?_
  rintro e w6 ⟨rfl, hb6⟩
  have HW6 := Lib.hid (HW5.out.below hb6)
  have HV6 := Lib.hid (HV5.out.below hb6)
  have HI6 := Lib.hid (HI5.out.below hb6)
  have HL6 := Lib.hid (low_after HL5.out hb6)
  clear hb6 c0 c1 lt0 d0 d1 lt1 HW5 HV5 HI5 HL5
  obtain ⟨c0, c1, lt0⟩ := HW6.out.cells
  obtain ⟨d0, d1, lt1⟩ := HV6.out.cells
  by_cases htr : trnB now l tt = true
  · have hok : WOk now l := by
      by_cases h : WOk now l
      · exact h
      · rw [trnB_no1 tt h] at htr; cases htr
    have hn0 : now ≤ tt := by
      by_cases h : tt < now
      · rw [trnB_no2 h] at htr; cases htr
      · omega
    have hn1 : tt ≤ 1000000000 := by
      by_cases h : 1000000000 < tt
      · rw [trnB_no3 h] at htr; cases htr
      · omega
    rw [wokB_true hok]
    obtain ⟨e1, e2, e3⟩ := trn_r htr
    have HSE := Lib.hid (HS.out.trans e2)
    have HIE := Lib.hid (HI.out.trans e3)
    obtain rfl : nw = tt := HNW.out.trans e1
    have hk0 := hok.n0
    have HOK := Lib.hid hok
    have hd1 : decide (nw < now) = false := by simp; omega
    have hd2 : decide (1000000000 < nw) = false := by simp; omega
    clear e1 e2 e3 htr hok
    obtain ⟨h, hh⟩ : ∃ h, h = now + (nw - now) / 2 := ⟨_, rfl⟩
    have hh0 : now ≤ h := by omega
    have hh1 : h ≤ nw := by omega
    have HH := Lib.hid hh
    have HTW := Lib.hid (HT.out.below HL6.out HTL.out)
    have HTG := Lib.hid (Nat.lt_of_lt_of_le HTL.out HL6.out.size)
    clear hh
    go_wp2_with fail
    rw [← HH.out]
    refine (turnWheel_any _ a l.length cap now l h HW6.out.is (by omega) HTW.out).mono ?_
    rintro e w7 ⟨⟨a7, cap7, vi7, rfl, ho7, hi7⟩, hb7⟩
    obtain ⟨ai7, ci7, rfl⟩ := hi7.shape
    obtain ⟨e1, e2, e3⟩ := trn_r (trnB_yes HOK.out hh0 (by omega : h ≤ 1000000000))
    rw [e2] at ho7 ⊢
    rw [e3] at hi7 ⊢
    rw [e1]
    obtain ⟨S1, hS1⟩ : ∃ S1, S1 = restL l h := ⟨_, rfl⟩
    have HS1 := Lib.hid hS1
    obtain ⟨I1, hI1⟩ : ∃ I1, I1 = (dueL l h).map Prod.snd := ⟨_, rfl⟩
    have HI1 := Lib.hid hI1
    have hs1 : S1.length ≤ 62 := by rw [hS1]; exact Nat.le_trans (List.length_filter_le _ _) hl62
    have hi1 : I1.length ≤ 62 := by rw [hI1, List.length_map]; exact Nat.le_trans (List.length_filter_le _ _) hl62
    rw [← hS1] at ho7 ⊢
    rw [← hI1] at hi7 ⊢
    have HA7 := Lib.hid (Wb.new ho7 hb7.size h)
    have HO7 := Lib.hid (Ib.new hi7 (.cells #[.int .i64 h, .slice a7 S1.length cap7] 26))
    have HV7 := Lib.hid ((HV6.out.below hb7).below (bOne w7 (.cells #[.int .i64 h, .slice a7 S1.length cap7] 26)))
    have HW7 := Lib.hid ((HW6.out.below hb7).below (bOne w7 (.cells #[.int .i64 h, .slice a7 S1.length cap7] 26)))
    have HI7 := Lib.hid ((HI6.out.below hb7).below (bOne w7 (.cells #[.int .i64 h, .slice a7 S1.length cap7] 26)))
    have HL7 := Lib.hid (low_alloc (low_after HL6.out hb7) (.cells #[.int .i64 h, .slice a7 S1.length cap7] 26))
    clear e1 e2 e3 hS1 hI1 ho7 hi7 hb7 c0 c1 lt0 d0 d1 lt1 HV6 HW6 HI6 HL6 HTW HTG hd1 hd2
    obtain ⟨c0, c1, lt0⟩ := HA7.out.cells
    go_wp2_with fail
    refine (turnWheel_any _ a7 S1.length cap7 h S1 nw HA7.out.is (by omega) (HT.out.below HL7.out HTL.out)).mono ?_
    rintro e w8 ⟨⟨a8, cap8, vi8, rfl, ho8, hi8⟩, hb8⟩
    obtain ⟨ai8, ci8, rfl⟩ := hi8.shape
    obtain ⟨e1, e2, e3⟩ := trn_r (show trnB h S1 nw = true from trnB_yes (by rw [HS1.out]; exact HOK.out.rest hh0 (by omega)) hh1 hn1)
    have e2' : restL S1 nw = S := by rw [HS1.out, rest_rest hh1, HSE.out]
    rw [e2'] at e2
    rw [e2] at ho8 ⊢
    rw [e3] at hi8 ⊢
    rw [e1]
    obtain ⟨I2, hI2⟩ : ∃ I2, I2 = (dueL S1 nw).map Prod.snd := ⟨_, rfl⟩
    have hII : I1 ++ I2 = I := by rw [HI1.out, hI2, HIE.out, ← List.map_append, HS1.out, due_two HOK.out.srt hh1]
    have hi2 : I2.length ≤ 62 := by rw [hI2, List.length_map]; exact Nat.le_trans (List.length_filter_le _ _) hs1
    rw [← hI2] at hi8 ⊢
    have HII := Lib.hid hII
    have HB8 := Lib.hid (Wb.new ho8 hb8.size nw)
    have HP8 := Lib.hid (Ib.new hi8 (.cells #[.int .i64 nw, .slice a8 S.length cap8] 26))
    have HV8 := Lib.hid ((HV7.out.below hb8).below (bOne w8 (.cells #[.int .i64 nw, .slice a8 S.length cap8] 26)))
    have HW8 := Lib.hid ((HW7.out.below hb8).below (bOne w8 (.cells #[.int .i64 nw, .slice a8 S.length cap8] 26)))
    have HI8 := Lib.hid ((HI7.out.below hb8).below (bOne w8 (.cells #[.int .i64 nw, .slice a8 S.length cap8] 26)))
    have HO8 := Lib.hid ((HO7.out.below hb8).below (bOne w8 (.cells #[.int .i64 nw, .slice a8 S.length cap8] 26)))
    have HL8 := Lib.hid (low_alloc (low_after HL7.out hb8) (.cells #[.int .i64 nw, .slice a8 S.length cap8] 26))
    clear e1 e2 e3 e2' hI2 hII ho8 hi8 hb8 c0 c1 lt0 HV7 HW7 HI7 HO7 HA7 HL7
    obtain ⟨kb, hkb⟩ : ∃ k, k = w8.heap.size := ⟨_, rfl⟩
    obtain ⟨d0, d1, lt1⟩ := HV8.out.cells
    go_wp2_with fail
    refine (wheelOk_any _ a2 S.length cap2 nw S HV8.out.is).mono ?_
    rintro e w9 ⟨rfl, hb9⟩
    rw [show wokB nw S = true from wokB_true (by rw [HSE.out]; exact HOK.out.rest hn0 hn1)]
    have HV9 := Lib.hid (HV8.out.below hb9)
    have HW9 := Lib.hid (HW8.out.below hb9)
    have HI9 := Lib.hid (HI8.out.below hb9)
    have HO9 := Lib.hid (HO8.out.below hb9)
    have HB9 := Lib.hid (HB8.out.below hb9)
    have HP9 := Lib.hid (HP8.out.below hb9)
    have HL9 := Lib.hid (low_after HL8.out hb9)
    rw [← hkb] at HB9 ⊢
    have hIS : (I.length : Int) + (S.length : Int) = (l.length : Int) := by
      have h1 := due_rest_len l nw
      have h2 : I.length = (dueL l nw).length := by rw [HIE.out, List.length_map]
      have h3 : S.length = (restL l nw).length := by rw [HSE.out]
      omega
    have HIS := Lib.hid hIS
    have HNX := Lib.hid (fun (hp : 0 < S.length) => show nw < nextL S by
      have h3 := HSE.out
      have h4 : 0 < (restL l nw).length := by rw [← h3]; exact hp
      rw [h3]
      exact rest_next h4)
    clear hIS hkb hb9 d0 d1 lt1 HV8 HW8 HI8 HO8 HB8 HP8 HL8
    obtain ⟨c0, c1, lt0⟩ := HV9.out.cells
    obtain ⟨d0, d1, lt1⟩ := HW9.out.cells
    by_cases hz : S.length = 0
    · have hzb : ((S.length : Int) == 0) = true := by simp [hz]
      have hIS := HIS.out
      obtain ⟨b0, b1, lt2⟩ := HB9.out.cells
      clear hz
      go_wp2_with fail
      refine (sameWheel_yes _ _ a8 a2 S.length cap8 cap2 nw S HB9.out.is HV9.out.is (by omega) (Nat.le_refl _)).mono ?_
      rintro e w11 ⟨rfl, hb11⟩
      have HI11 := Lib.hid (HI9.out.below hb11)
      have HO11 := Lib.hid (HO9.out.below hb11)
      have HP11 := Lib.hid (HP9.out.below hb11)
      have HL11 := Lib.hid (low_after HL9.out hb11)
      have HNIL := Lib.hid (inil w11)
      have HBN := Lib.hid (bOne w11 (.cells #[] 3))
      have HO12 := Lib.hid (HO11.out.below HBN.out).is
      have HC7 := Lib.hid HO11.out.own.nilcap
      have HC8 := Lib.hid HP11.out.own.nilcap
      have HZ7 := Lib.hid (show ([] : List Int).length + I1.length ≤ 2000000 by simp; omega)
      have HZ8 := Lib.hid (show (([] : List Int) ++ I1).length + I2.length ≤ 2000000 by simp; omega)
      clear hb11 c0 c1 lt0 d0 d1 lt1 b0 b1 lt2 HI9 HO9 HP9 HB9 HV9 HW9 HL9
      go_wp2_with (first
        | (at_builtin; refine wpList_append_guard (by rfl) _ _ _ rfl _ _ (by simp [Act.eval]) (by simp [Act.eval]) (app_iis (cap := ci7) HNIL.out HO12.out HC7.out HZ7.out HBN.out.size) ?_; intro v12 w12 happ; obtain ⟨a12, n12, c12, rfl⟩ := happ.form; have hb12 := HBN.out.grown happ.2.1 HBN.out.size (fun k hk => (World.ownsRow.lt HNIL.out k hk).1); have HO13 := Lib.hid happ.1; have HB12 := Lib.hid hb12; have HP12 := Lib.hid (HP11.out.below hb12).is; clear happ hb12)
        | (at_builtin; refine wpList_append_guard (by rfl) _ _ _ rfl _ _ (by simp [Act.eval]) (by simp [Act.eval]) (app_iis (cap := ci8) HO13.out HP12.out HC8.out HZ8.out HB12.out.size) ?_; intro v13 w13 happ; obtain ⟨a13, n13, c13, rfl⟩ := happ.form; have hb13 := HB12.out.grown happ.2.1 HB12.out.size (fun k hk => (World.ownsRow.lt HO13.out k hk).1); have HO14 := Lib.hid happ.1; have HB13 := Lib.hid hb13; clear happ hb13)
        | fail)
      have hn13 : ([] ++ I1 ++ I2 : List Int) = I := by rw [List.nil_append]; exact HII.out
      have ho14 := HO14.out
      rw [hn13] at ho14
      obtain ⟨x1, x2, e⟩ := ho14.shape
      simp only [Value.slice.injEq] at e
      obtain rfl : n13 = I.length := e.2.1
      have HOF := Lib.hid ho14
      have HI13 := Lib.hid (HI11.out.below HB13.out)
      have HL13 := Lib.hid (low_after HL11.out HB13.out)
      clear e hn13 ho14 HO14 x1 x2
      refine (sameInts_yes _ _ a13 ai2 I.length c13 ci2 I HOF.out.isN HI13.out.is (by omega) (Nat.le_refl _)).mono ?_
      rintro e w14 ⟨rfl, hb14⟩
      have HL14 := Lib.hid (low_after HL13.out hb14)
      clear hb14
      go_wp2_with fail
      go_ret
      exact ⟨rfl, HL14.out⟩
    · have hzb : ((S.length : Int) == 0) = false := by simpa using hz
      have hpos : 0 < S.length := by omega
      have hgt := HNX.out hpos
      clear hz hpos
      go_wp2_with fail
      refine (nextTimer_any _ _ a2 S.length cap2 nw S HV9.out.is (Nat.le_refl _)).mono ?_
      rintro e w10 ⟨rfl, hb10⟩
      have HV10 := Lib.hid (HV9.out.below hb10)
      have HW10 := Lib.hid (HW9.out.below hb10)
      have HI10 := Lib.hid (HI9.out.below hb10)
      have HO10 := Lib.hid (HO9.out.below hb10)
      have HB10 := Lib.hid (HB9.out.below hb10)
      have HP10 := Lib.hid (HP9.out.below hb10)
      have HL10 := Lib.hid (low_after HL9.out hb10)
      obtain ⟨qn, hqn⟩ : ∃ q, q = nextL S := ⟨_, rfl⟩
      rw [← hqn] at hgt ⊢
      clear hqn hb10 c0 c1 lt0 d0 d1 lt1 HV9 HW9 HI9 HO9 HB9 HP9 HL9
      obtain ⟨c0, c1, lt0⟩ := HV10.out.cells
      obtain ⟨d0, d1, lt1⟩ := HW10.out.cells
      obtain ⟨b0, b1, lt2⟩ := HB10.out.cells
      have hIS := HIS.out
      go_wp2_with fail
      refine (sameWheel_yes _ _ a8 a2 S.length cap8 cap2 nw S HB10.out.is HV10.out.is (by omega) (Nat.le_refl _)).mono ?_
      rintro e w11 ⟨rfl, hb11⟩
      have HI11 := Lib.hid (HI10.out.below hb11)
      have HO11 := Lib.hid (HO10.out.below hb11)
      have HP11 := Lib.hid (HP10.out.below hb11)
      have HL11 := Lib.hid (low_after HL10.out hb11)
      have HNIL := Lib.hid (inil w11)
      have HBN := Lib.hid (bOne w11 (.cells #[] 3))
      have HO12 := Lib.hid (HO11.out.below HBN.out).is
      have HC7 := Lib.hid HO11.out.own.nilcap
      have HC8 := Lib.hid HP11.out.own.nilcap
      have HZ7 := Lib.hid (show ([] : List Int).length + I1.length ≤ 2000000 by simp; omega)
      have HZ8 := Lib.hid (show (([] : List Int) ++ I1).length + I2.length ≤ 2000000 by simp; omega)
      clear hb11 c0 c1 lt0 d0 d1 lt1 b0 b1 lt2 HI10 HO10 HP10 HB10 HV10 HW10 HL10
      go_wp2_with (first
        | (at_builtin; refine wpList_append_guard (by rfl) _ _ _ rfl _ _ (by simp [Act.eval]) (by simp [Act.eval]) (app_iis (cap := ci7) HNIL.out HO12.out HC7.out HZ7.out HBN.out.size) ?_; intro v12 w12 happ; obtain ⟨a12, n12, c12, rfl⟩ := happ.form; have hb12 := HBN.out.grown happ.2.1 HBN.out.size (fun k hk => (World.ownsRow.lt HNIL.out k hk).1); have HO13 := Lib.hid happ.1; have HB12 := Lib.hid hb12; have HP12 := Lib.hid (HP11.out.below hb12).is; clear happ hb12)
        | (at_builtin; refine wpList_append_guard (by rfl) _ _ _ rfl _ _ (by simp [Act.eval]) (by simp [Act.eval]) (app_iis (cap := ci8) HO13.out HP12.out HC8.out HZ8.out HB12.out.size) ?_; intro v13 w13 happ; obtain ⟨a13, n13, c13, rfl⟩ := happ.form; have hb13 := HB12.out.grown happ.2.1 HB12.out.size (fun k hk => (World.ownsRow.lt HO13.out k hk).1); have HO14 := Lib.hid happ.1; have HB13 := Lib.hid hb13; clear happ hb13)
        | fail)
      have hn13 : ([] ++ I1 ++ I2 : List Int) = I := by rw [List.nil_append]; exact HII.out
      have ho14 := HO14.out
      rw [hn13] at ho14
      obtain ⟨x1, x2, e⟩ := ho14.shape
      simp only [Value.slice.injEq] at e
      obtain rfl : n13 = I.length := e.2.1
      have HOF := Lib.hid ho14
      have HI13 := Lib.hid (HI11.out.below HB13.out)
      have HL13 := Lib.hid (low_after HL11.out HB13.out)
      clear e hn13 ho14 HO14 x1 x2
      refine (sameInts_yes _ _ a13 ai2 I.length c13 ci2 I HOF.out.isN HI13.out.is (by omega) (Nat.le_refl _)).mono ?_
      rintro e w14 ⟨rfl, hb14⟩
      have HL14 := Lib.hid (low_after HL13.out hb14)
      clear hb14
      go_wp2_with fail
      go_ret
      exact ⟨rfl, HL14.out⟩
  · have hf : trnB now l tt = false := by simpa using htr
    obtain ⟨e1, e2, e3⟩ := trn_s hf
    obtain rfl : S = l := HS.out.trans e2
    obtain rfl : I = [] := HI.out.trans e3
    obtain rfl : nw = now := HNW.out.trans e1
    clear e1 e2 e3
    by_cases hok : WOk nw S
    · rw [wokB_true hok]
      by_cases h1 : tt < nw
      · clear hok htr hf
        go_wp2_with fail
        refine (sameWheel_yes _ _ a2 a S.length cap2 cap nw S HV6.out.is HW6.out.is (by omega) (Nat.le_refl _)).mono ?_
        rintro e w7 ⟨rfl, hb7⟩
        have HL7 := Lib.hid (low_after HL6.out hb7)
        clear hb7
        go_wp2_with fail
        go_ret
        exact ⟨rfl, HL7.out⟩
      · by_cases h2 : 1000000000 < tt
        · have hd1 : decide (tt < nw) = false := by simp; omega
          clear hok htr hf
          go_wp2_with fail
          refine (sameWheel_yes _ _ a2 a S.length cap2 cap nw S HV6.out.is HW6.out.is (by omega) (Nat.le_refl _)).mono ?_
          rintro e w7 ⟨rfl, hb7⟩
          have HL7 := Lib.hid (low_after HL6.out hb7)
          clear hb7
          go_wp2_with fail
          go_ret
          exact ⟨rfl, HL7.out⟩
        · exact absurd (trnB_yes hok (by omega) (by omega)) htr
    · rw [wokB_false hok]
      clear hok htr hf
      go_wp2_with fail
      refine (sameWheel_yes _ _ a2 a S.length cap2 cap nw S HV6.out.is HW6.out.is (by omega) (Nat.le_refl _)).mono ?_
      rintro e w7 ⟨rfl, hb7⟩
      have HL7 := Lib.hid (low_after HL6.out hb7)
      clear hb7
      go_wp2_with fail
      go_ret
      exact ⟨rfl, HL7.out⟩
end Go.Proofs.YtkoliacbajpijaaDoor.Whl
