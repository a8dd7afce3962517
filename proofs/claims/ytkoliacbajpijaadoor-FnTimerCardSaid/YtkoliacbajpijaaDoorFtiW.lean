/-
  The walk of the law FnTimer.
-/
import Derived.Test.YtkoliacbajpijaaDoorFdrW
import Derived.Test.YtkoliacbajpijaaDoorSpsW
namespace Go.Proofs.YtkoliacbajpijaaDoor.Whl
open Go.RowKit Go.Maps Go.Proofs.YtkoliacbajpijaaDoor.Kit Go.Proofs.YtkoliacbajpijaaDoor.Draw
set_option linter.unusedVariables false
set_option linter.unusedSimpArgs false

theorem setR_len' (now : Int) (l : List T) (t : T) : (setR now l t).length ≤ l.length + 60 := by
  unfold setR
  cases h : setB now l t with
  | false => simp
  | true =>
    unfold setB at h
    simp only [Bool.and_eq_true] at h
    have h2 : WOk now (setL l t) := by
      by_cases hc : WOk now (setL l t)
      · exact hc
      · rw [wokB_false hc] at h; simp at h
    have := h2.len
    simp
    omega
theorem setB_ok {now : Int} {l : List T} {t : T} (h : setB now l t = true) : WOk now l ∧ WOk now (setL l t) := by
  unfold setB at h
  simp only [Bool.and_eq_true] at h
  constructor
  · by_cases hc : WOk now l
    · exact hc
    · rw [wokB_false hc] at h; simp at h
  · by_cases hc : WOk now (setL l t)
    · exact hc
    · rw [wokB_false hc] at h; simp at h
theorem set_at {now : Int} {l : List T} {t : T} (h : WOk now (setL l t)) : ∃ p, ∃ hp : p < (setL l t).length, (setL l t)[p] = t ∧ ∀ (j : Nat) (hj : j < (setL l t).length), j ≠ p → (setL l t)[j].2 ≠ t.2 := by
  obtain ⟨p, hp, e⟩ := List.getElem_of_mem (setL_mem.2 (.inl rfl) : t ∈ setL l t)
  refine ⟨p, hp, e, fun j hj hne hid => ?_⟩
  have hn := h.ids
  have h1 : ((setL l t).map Prod.snd)[j]'(by simpa using hj) = ((setL l t).map Prod.snd)[p]'(by simpa using hp) := by
    rw [List.getElem_map, List.getElem_map, e, hid]
  unfold List.Nodup at hn
  rw [List.pairwise_iff_getElem] at hn
  rcases Nat.lt_or_gt_of_ne hne with h2 | h2
  · exact hn j p (by simpa using hj) (by simpa using hp) h2 h1
  · exact hn p j (by simpa using hp) (by simpa using hj) h2 h1.symm
theorem drop_set {now : Int} {l : List T} {t : T} (h : WOk now l) (h2 : WOk now (setL l t)) : dropL (setL l t) t.2 = dropL l t.2 := by
  refine srt_unique (h2.drop _).srt (h.drop _).srt (fun u => ?_)
  rw [dropL_mem, dropL_mem, setL_mem]
  constructor
  · rintro ⟨h1 | h1, h3⟩
    · exact absurd (by rw [h1]) h3
    · exact ⟨h1.1, h3⟩
  · rintro ⟨h1, h3⟩
    exact ⟨.inr ⟨h1, h3⟩, h3⟩
theorem next_le {now : Int} {S : List T} {t : T} (h : WOk now S) (ht : t ∈ S) : nextL S ≤ t.1 := by
  have hp : 0 < S.length := List.length_pos_of_mem ht
  rw [nextL_some hp]
  obtain ⟨p, hp2, e⟩ := List.getElem_of_mem ht
  by_cases h0 : p = 0
  · subst h0; rw [e]; omega
  · have h1 := (List.pairwise_iff_getElem.1 h.srt) 0 p hp hp2 (by omega)
    rw [e] at h1
    unfold ahd at h1
    omega
/-- a timer in a box -/
structure Tb (w : World) (k : Nat) (x y : Int) : Prop where
  box : Bx w k (.int .i64 x) (.int .i64 y)
theorem Tb.below {w w1 : World} {k : Nat} {x y : Int} (h : Tb w k x y) (hb : Below w.heap.size w w1) : Tb w1 k x y := ⟨h.box.below hb⟩
/-- how many of the first j are the one at p -/
def cntP (p j : Nat) : Int := if p < j then 1 else 0

set_option maxRecDepth 100000 in
set_option maxHeartbeats 4000000 in
theorem fnTimer_walk (w : World) (a0 : Option Addr) (len0 cap0 : Nat) (zs : List Int) (hrow : IsRow .u8 w a0 len0 cap0 zs) (hT : TabD w) :
    Calls Tryd.prog 3 #[.slice a0 len0 cap0] w fun e w' => e = .returned (.bool true) ∧ Below w.heap.size w w' := by
  have hcode := hrow.code
  have hle := hcode.le
  have HC := Lib.hid hcode
  have HT := Lib.hid hT
  have HTL := Lib.hid hT.lt
  have HLE := Lib.hid hle
  clear hrow hcode hT hle
  go_enter Tryd.func3, Tryd.ntmps3
  by_cases hbig : (1048576 : Int) < (len0 : Int)
  · go_wp2_with fail
    refine (big_yes _ a0 len0 cap0 HLE.out hbig).mono ?_
    rintro e w' ⟨rfl, rfl⟩
    go_wp2_with fail
    go_ret
    exact ⟨rfl, Below.refl _ _⟩
  go_wp2_with fail
  refine (big_no _ a0 len0 cap0 HLE.out (by omega)).mono ?_
  rintro e w' ⟨rfl, rfl⟩
  clear hbig
  go_wp2_with fail
  refine (drawSet_draw _ w.heap.size a0 len0 cap0 HC.out (Nat.le_refl _)).mono ?_
  rintro e w1 ⟨now, a, n, cap, l, x, y, rfl, hdw, hy0, hy1, hb1⟩
  obtain rfl : n = l.length := hdw.len
  have HB2 := Lib.hid (bOne (w1.alloc (.cells #[.int .i64 now, .slice a l.length cap] 26)) (.cells #[.int .i64 x, .int .i64 y] 28))
  have HW := Lib.hid ((Wb.new hdw.own hb1.size now).below HB2.out)
  have HQ := Lib.hid (show Tb ((w1.alloc (.cells #[.int .i64 now, .slice a l.length cap] 26)).alloc (.cells #[.int .i64 x, .int .i64 y] 28)) (w1.heap.size + 1) x y by
    have h1 := Bx.new (w1.alloc (.cells #[.int .i64 now, .slice a l.length cap] 26)) (.int .i64 x) (.int .i64 y) 28
    simp at h1
    exact ⟨h1⟩)
  have hl62 := hdw.le
  have HL1 := Lib.hid (low_after (low_alloc hb1 (.cells #[.int .i64 now, .slice a l.length cap] 26)) HB2.out)
  have HID := Lib.hid (wf_small (z := y) (by omega) (by omega))
  clear hdw hb1 hy0 hy1
  go_upto_region 4 with fail
  obtain ⟨W2, hW2⟩ : ∃ W, W = ((w1.alloc (.cells #[.int .i64 now, .slice a l.length cap] 26)).alloc (.cells #[.int .i64 x, .int .i64 y] 28)) := ⟨_, rfl⟩
  rw [← hW2] at HW HQ HL1 ⊢
  clear hW2 HB2
  obtain ⟨c0, c1, lt0⟩ := HW.out.cells
  obtain ⟨d0, d1, lt1⟩ := HQ.out.box
  go_wp2_with fail
  refine (setTimer_any _ a l.length cap now l x y HW.out.is (by omega) (HT.out.below HL1.out HTL.out)).mono ?_
  rintro e w2 ⟨⟨a2, cap2, rfl, ho2⟩, hb2⟩
  obtain ⟨S, hS⟩ : ∃ S, S = setR now l (x, y) := ⟨_, rfl⟩
  have HS := Lib.hid hS
  obtain ⟨ok, hok⟩ : ∃ ok, ok = setB now l (x, y) := ⟨_, rfl⟩
  have HOK := Lib.hid hok
  have hs62 : S.length ≤ 200 := by rw [hS]; exact Nat.le_trans (setR_len' now l (x, y)) (by omega)
  rw [← hS] at ho2 ⊢
  rw [← hok]
  have HV2 := Lib.hid (Wb.new ho2 hb2.size now)
  have HW2 := Lib.hid ((HW.out.below hb2).below (bOne w2 (.cells #[.int .i64 now, .slice a2 S.length cap2] 26)))
  have HQ2 := Lib.hid ((HQ.out.below hb2).below (bOne w2 (.cells #[.int .i64 now, .slice a2 S.length cap2] 26)))
  have HL2 := Lib.hid (low_alloc (low_after HL1.out hb2) (.cells #[.int .i64 now, .slice a2 S.length cap2] 26))
  clear ho2 hb2 hS hok c0 c1 lt0 d0 d1 lt1 HW HQ HL1
  obtain ⟨c0, c1, lt0⟩ := HW2.out.cells
  obtain ⟨d0, d1, lt1⟩ := HQ2.out.box
  go_wp2_with fail
  refine (specSetTimer_any _ a l.length cap now l x y HW2.out.is (by omega) HW2.out.own.nilcap).mono ?_
  rintro e w3 ⟨⟨a3, cap3, rfl, ho3⟩, hb3⟩
  rw [← HS.out] at ho3 ⊢
  rw [← HOK.out]
  have HU3 := Lib.hid (Wb.new ho3 hb3.size now)
  have HW3 := Lib.hid ((HW2.out.below hb3).below (bOne w3 (.cells #[.int .i64 now, .slice a3 S.length cap3] 26)))
  have HV3 := Lib.hid ((HV2.out.below hb3).below (bOne w3 (.cells #[.int .i64 now, .slice a3 S.length cap3] 26)))
  have HQ3 := Lib.hid ((HQ2.out.below hb3).below (bOne w3 (.cells #[.int .i64 now, .slice a3 S.length cap3] 26)))
  have HL3 := Lib.hid (low_alloc (low_after HL2.out hb3) (.cells #[.int .i64 now, .slice a3 S.length cap3] 26))
  clear ho3 hb3 c0 c1 lt0 d0 d1 lt1 HW2 HV2 HQ2 HL2
  go_upto_region 6 with fail
  obtain ⟨V, hV⟩ : ∃ V, V = w3.alloc (.cells #[.int .i64 now, .slice a3 S.length cap3] 26) := ⟨_, rfl⟩
  rw [← hV] at HU3 HV3 HW3 HQ3 HL3 ⊢
  clear hV
  obtain ⟨kt, hkt⟩ : ∃ k, k = w1.heap.size + 1 := ⟨_, rfl⟩
  rw [← hkt] at HQ3 ⊢
  obtain ⟨kw, hkw⟩ : ∃ k, k = w1.heap.size := ⟨_, rfl⟩
  obtain ⟨kv, hkv⟩ : ∃ k, k = w2.heap.size := ⟨_, rfl⟩
  obtain ⟨ku, hku⟩ : ∃ k, k = w3.heap.size := ⟨_, rfl⟩
  rw [← hkw] at HW3 ⊢
  rw [← hkv] at HV3 ⊢
  rw [← hku] at HU3 ⊢
  clear hkw hkv hku hkt
  obtain ⟨wk, hwk⟩ : ∃ b, b = wokB now l := ⟨_, rfl⟩
  have HWK := Lib.hid hwk
  clear hwk
  have HKS := Lib.hid (fun w' (h : Below V.heap.size V w') => And.intro (HV3.out.box.below h).c0 (And.intro (HV3.out.box.below h).c1 (And.intro (HU3.out.box.below h).c0 (And.intro (HU3.out.box.below h).c1 (And.intro (HW3.out.box.below h).c0 (And.intro (HW3.out.box.below h).c1 (h)))))))
  have HD := Lib.hid (show Below V.heap.size V V.drew from below_drew' (Below.refl _ _))
  go_region_held3 (fun w' => w'.cell? ⟨kv, 0, none⟩ = some (.int .i64 now) ∧ w'.cell? ⟨kv, 1, none⟩ = some (.slice a2 S.length cap2) ∧ w'.cell? ⟨ku, 0, none⟩ = some (.int .i64 now) ∧ w'.cell? ⟨ku, 1, none⟩ = some (.slice a3 S.length cap3) ∧ w'.cell? ⟨kw, 0, none⟩ = some (.int .i64 now) ∧ w'.cell? ⟨kw, 1, none⟩ = some (.slice a l.length cap) ∧ Below V.heap.size V w')
    (first
      | exact HKS.out _ HD.out
      | exact HKS.out _ HLA.out
      | exact HKS.out _ HLB.out
      | exact HKS.out _ HLC.out)
    (first
      | (go_at_call 15; refine (sameWheel_yes _ _ a2 a3 S.length cap2 cap3 now S (HV3.out.below ((‹_ ∧ _ ∧ _ ∧ _ ∧ _ ∧ _ ∧ Below V.heap.size V _›).2.2.2.2.2.2)).is (HU3.out.below ((‹_ ∧ _ ∧ _ ∧ _ ∧ _ ∧ _ ∧ Below V.heap.size V _›).2.2.2.2.2.2)).is (by omega) (Nat.le_refl _)).mono ?_; rintro e wA ⟨rfl, hbA⟩; have HLA := Lib.hid (low_after ((‹_ ∧ _ ∧ _ ∧ _ ∧ _ ∧ _ ∧ Below V.heap.size V _›).2.2.2.2.2.2) hbA))
      | (go_at_call 16; refine (wheelOk_any _ a l.length cap now l (HW3.out.below ((‹_ ∧ _ ∧ _ ∧ _ ∧ _ ∧ _ ∧ Below V.heap.size V _›).2.2.2.2.2.2)).is).mono ?_; rintro e wB ⟨rfl, hbB⟩; rw [← HWK.out]; have HLB := Lib.hid (low_after ((‹_ ∧ _ ∧ _ ∧ _ ∧ _ ∧ _ ∧ Below V.heap.size V _›).2.2.2.2.2.2) hbB))
      | (go_at_call 17; refine (specWheelOk_any _ a l.length cap now l (HW3.out.below ((‹_ ∧ _ ∧ _ ∧ _ ∧ _ ∧ _ ∧ Below V.heap.size V _›).2.2.2.2.2.2)).is).mono ?_; rintro e wC ⟨rfl, hbC⟩; rw [← HWK.out]; have HLC := Lib.hid (low_after ((‹_ ∧ _ ∧ _ ∧ _ ∧ _ ∧ _ ∧ Below V.heap.size V _›).2.2.2.2.2.2) hbC)))
  have HW4 := Lib.hid (HW3.out.below HLC.out)
  have HV4 := Lib.hid (HV3.out.below HLC.out)
  have HQ4 := Lib.hid (HQ3.out.below HLC.out)
  have HL4 := Lib.hid (low_after HL3.out HLC.out)
  clear HW3 HV3 HQ3 HL3 HU3 hbA hbB hbC HLA HLB HLC HKS HD
  obtain ⟨c0, c1, lt0⟩ := HV4.out.cells
  obtain ⟨d0, d1, lt1⟩ := HW4.out.cells
  cases hok : ok with
  | false =>
    obtain rfl : S = l := by rw [HS.out]; exact setR_no (by rw [← HOK.out, hok])
    subst hok
    go_wp2_with fail
    refine (sameWheel_yes _ _ a2 a S.length cap2 cap now S HV4.out.is HW4.out.is (by omega) (Nat.le_refl _)).mono ?_
    rintro e w5 ⟨rfl, hb5⟩
    have HL5 := Lib.hid (low_after HL4.out hb5)
    clear hb5
    go_wp2_with fail
    go_ret
    exact ⟨rfl, HL5.out⟩
  | true =>
    have hsb : setB now l (x, y) = true := by rw [← HOK.out, hok]
    obtain ⟨hk1, hk2⟩ := setB_ok hsb
    have hSe : S = setL l (x, y) := by rw [HS.out]; exact setR_yes hsb
    rw [← hSe] at hk2
    obtain ⟨p, hp, hpe, hpn⟩ : ∃ p, ∃ hp : p < S.length, S[p] = (x, y) ∧ ∀ (j : Nat) (hj : j < S.length), j ≠ p → S[j].2 ≠ y := by
      have := set_at (l := l) (t := (x, y)) (by rw [← hSe]; exact hk2)
      rw [← hSe] at this
      exact this
    obtain ⟨R, hR⟩ : ∃ R, R = dropL l y := ⟨_, rfl⟩
    have HR1 := Lib.hid (show drpR now l y = R by rw [drpR_ok hk1, hR])
    have HR2 := Lib.hid (show drpR now S y = R by
      rw [drpR_ok hk2, hR]
      have := drop_set (t := (x, y)) hk1 (by rw [← hSe]; exact hk2)
      rw [← hSe] at this
      exact this)
    have hr62 : R.length ≤ 200 := by rw [hR]; exact Nat.le_trans (List.length_filter_le _ _) (by omega)
    have HOS := Lib.hid (wokB_true hk2)
    have HNX := Lib.hid (show nextL S ≤ x from next_le (t := (x, y)) hk2 (by rw [← hpe]; exact List.getElem_mem _))
    have HPE := Lib.hid hpe
    have HPN := Lib.hid hpn
    clear hsb hk1 hk2 hSe hR hpe hpn
    subst hok
    go_wp2_with fail
    go_loopw [9, 10] (fun c i wr => ∃ j : Nat, j ≤ S.length ∧ i = .int .i64 j ∧ c = .int .i64 (cntP p j) ∧ Hid (Below wC.heap.size wC wr)) (fun _ i _ => S.length - (intOf i).toNat)
    case atStart => exact ⟨0, by omega, rfl, by simp [cntP], Lib.hid (Below.refl _ _)⟩
    case round =>
      obtain ⟨j, hj, rfl, rfl, HB⟩ := hrel
      clear c0 c1 lt0 d0 d1 lt1
      have HV5 := Lib.hid (HV4.out.below HB.out)
      have HW5 := Lib.hid (HW4.out.below HB.out)
      have HQ5 := Lib.hid (HQ4.out.below HB.out)
      have HL5 := Lib.hid (low_after HL4.out HB.out)
      obtain ⟨c0, c1, lt0⟩ := HV5.out.cells
      obtain ⟨q0, q1, lt2⟩ := HQ5.out.box
      by_cases hlt : (j : Int) < (S.length : Int)
      · have hjl : j < S.length := by omega
        obtain ⟨b', off, rfl, hbw, e0, e1⟩ := HV5.out.is.cell j hjl
        by_cases hjp : j = p
        · subst hjp
          rw [HPE.out] at e0 e1
          simp only at e0 e1
          have hc0 : cntP j j = 0 := by simp [cntP]
          have HC1 := Lib.hid (show cntP j (j + 1) = 1 by simp [cntP])
          rw [hc0]
          clear hc0
          go_wp2_with fail
          go_quiet (fail)
          go_wp2_with fail
          go_quiet (fail)
          go_wp2_with fail
          go_roundw
          case rel => exact ⟨j + 1, by omega, by go_num, by rw [HC1.out], Lib.hid (below_drewN HB.out _)⟩
          case measure => simp [intOf]; omega
        · obtain ⟨u, hu⟩ : ∃ u, u = S[j].1 := ⟨_, rfl⟩
          obtain ⟨v, hv⟩ : ∃ v, v = S[j].2 := ⟨_, rfl⟩
          have hne : (v == y) = false := by rw [hv]; simpa using HPN.out j hjl hjp
          have HC1 := Lib.hid (show cntP p (j + 1) = cntP p j by unfold cntP; by_cases h : p < j; rw [if_pos h, if_pos (by omega)]; rw [if_neg h, if_neg (by omega)])
          rw [← hu] at e0
          rw [← hv] at e1
          clear hu hv
          obtain ⟨c, hc⟩ : ∃ c, c = cntP p j := ⟨_, rfl⟩
          rw [← hc] at HC1 ⊢
          clear hc
          go_wp2_with fail
          go_quiet (fail)
          go_wp2_with fail
          go_roundw
          case rel => exact ⟨j + 1, by omega, by go_num, by rw [HC1.out], Lib.hid (below_drewN HB.out _)⟩
          case measure => simp [intOf]; omega
      · have hjl : j = S.length := by omega
        have hc1 : cntP p j = 1 := by unfold cntP; rw [if_pos (by omega)]
        rw [hc1]
        subst hjl
        clear hc1 c0 c1 lt0 q0 q1 lt2
        obtain ⟨c0, c1, lt0⟩ := HV5.out.cells
        go_upto_region 18 with fail
        have hnx := HNX.out
        have HKS := Lib.hid (fun w' (h : Below wr.heap.size wr w') => And.intro (HV5.out.box.below h).c0 (And.intro (HV5.out.box.below h).c1 (And.intro (HW5.out.box.below h).c0 (And.intro (HW5.out.box.below h).c1 (And.intro (HQ5.out.box.below h).c0 (And.intro (HQ5.out.box.below h).c1 (h)))))))
        have HD := Lib.hid (show Below wr.heap.size wr wr.drew from below_drew' (Below.refl _ _))
        go_region_held3 (fun w' => w'.cell? ⟨kv, 0, none⟩ = some (.int .i64 now) ∧ w'.cell? ⟨kv, 1, none⟩ = some (.slice a2 S.length cap2) ∧ w'.cell? ⟨kw, 0, none⟩ = some (.int .i64 now) ∧ w'.cell? ⟨kw, 1, none⟩ = some (.slice a l.length cap) ∧ w'.cell? ⟨kt, 0, none⟩ = some (.int .i64 x) ∧ w'.cell? ⟨kt, 1, none⟩ = some (.int .i64 y) ∧ Below wr.heap.size wr w')
          (first
            | exact HKS.out _ HD.out
            | exact HKS.out _ HLA.out
            | exact HKS.out _ HLF.out
            | exact HKS.out _ HLG.out
            | exact HKS.out _ HLB.out
            | exact HKS.out _ HLE.out)
          (first
            | (go_at_call 16; refine (wheelOk_any _ a2 S.length cap2 now S (HV5.out.below ((‹_ ∧ _ ∧ _ ∧ _ ∧ _ ∧ _ ∧ Below wr.heap.size wr _›).2.2.2.2.2.2)).is).mono ?_; rintro e wA ⟨he, hbA⟩; rw [HOS.out] at he; subst he; have HLA := Lib.hid (low_after ((‹_ ∧ _ ∧ _ ∧ _ ∧ _ ∧ _ ∧ Below wr.heap.size wr _›).2.2.2.2.2.2) hbA))
            | (go_at_call 15; refine (sameWheel_yes _ _ aB aE R.length capB capE now R (TIs.here hoB.isN hbE) hoE.isN (by omega) (Nat.le_refl _)).mono ?_; rintro e wF ⟨rfl, hbF⟩; have HLF := Lib.hid (low_after ((‹_ ∧ _ ∧ _ ∧ _ ∧ _ ∧ _ ∧ Below wr.heap.size wr _›).2.2.2.2.2.2) hbF))
            | (go_at_call 19; refine (nextTimer_any _ _ a2 S.length cap2 now S (HV5.out.below ((‹_ ∧ _ ∧ _ ∧ _ ∧ _ ∧ _ ∧ Below wr.heap.size wr _›).2.2.2.2.2.2)).is (Nat.le_refl _)).mono ?_; rintro e wG ⟨rfl, hbG⟩; have HLG := Lib.hid (low_after ((‹_ ∧ _ ∧ _ ∧ _ ∧ _ ∧ _ ∧ Below wr.heap.size wr _›).2.2.2.2.2.2) hbG))
            | (go_at_call 18; (with_reducible refine (dropTimer_any _ a2 S.length cap2 now S y (HV5.out.below ((‹_ ∧ _ ∧ _ ∧ _ ∧ _ ∧ _ ∧ Below wr.heap.size wr _›).2.2.2.2.2.2)).is (by omega) HID.out (HT.out.below (low_after HL5.out ((‹_ ∧ _ ∧ _ ∧ _ ∧ _ ∧ _ ∧ Below wr.heap.size wr _›).2.2.2.2.2.2)) HTL.out)).mono ?_); rintro e wB ⟨⟨aB, capB, rfl, hoB⟩, hbB⟩; rw [HR2.out] at hoB ⊢; have HLB := Lib.hid (low_after ((‹_ ∧ _ ∧ _ ∧ _ ∧ _ ∧ _ ∧ Below wr.heap.size wr _›).2.2.2.2.2.2) hbB))
            | (go_at_call 18; (with_reducible refine (dropTimer_any _ a l.length cap now l y (HW5.out.below ((‹_ ∧ _ ∧ _ ∧ _ ∧ _ ∧ _ ∧ Below wr.heap.size wr _›).2.2.2.2.2.2)).is (by omega) HID.out (HT.out.below (low_after HL5.out ((‹_ ∧ _ ∧ _ ∧ _ ∧ _ ∧ _ ∧ Below wr.heap.size wr _›).2.2.2.2.2.2)) HTL.out)).mono ?_); rintro e wE ⟨⟨aE, capE, rfl, hoE⟩, hbE⟩; rw [HR1.out] at hoE ⊢; have HLE := Lib.hid (low_after ((‹_ ∧ _ ∧ _ ∧ _ ∧ _ ∧ _ ∧ Below wr.heap.size wr _›).2.2.2.2.2.2) hbE)))
        have HL6 := Lib.hid (low_after HL5.out HLG.out)
        go_wp2_with fail
        go_ret
        exact ⟨rfl, HL6.out⟩
end Go.Proofs.YtkoliacbajpijaaDoor.Whl
