/-
  The walk of the law FnSlots.
-/
import Derived.Test.YtkoliacbajpijaaDrawN
import Derived.Test.YtkoliacbajpijaaBig
import Derived.Test.YtkoliacbajpijaaLvlW
import Derived.WalkArith
namespace Go.Proofs.Ytkoliacbajpijaa.Draw
open Go.RowKit Go.Proofs.Ytkoliacbajpijaa.Kit
set_option linter.unusedVariables false

set_option maxHeartbeats 400000 in
theorem time_draw (w : World) (cb B : Nat) (a : Option Addr) (len cap : Nat) (hd : Dr B w cb 58 a len cap) :
    Calls Try.prog 24 #[.pointer (some ⟨cb, 0, none⟩)] w fun e w' => (∃ z : Int, e = .returned (.int .i64 z) ∧ isI64 z) ∧ Went B w w' cb 58 a len cap := by
  go_enter Try.func24, Try.ntmps24
  go_wp2_with fail
  refine (below_draw _ cb B a len cap hd _ (by omega) (by omega)).mono ?_
  rintro e w1 ⟨⟨x, rfl, hx0, hx1⟩, hw⟩
  go_wp2_with fail
  have hlt := hw.dr.cur.lt
  refine (pickInt_draw _ cb B a len cap (hw.alloc _).dr w1.heap.size 15 isI64 (nums_new w1 [.int .i64 0, .int .i64 1, .int .i64 63, .int .i64 64, .int .i64 65, .int .i64 4095, .int .i64 4096, .int .i64 262143, .int .i64 262144, .int .i64 16777216, .int .i64 1073741823, .int .i64 1073741824, .int .i64 9223372036854775807, .int .i64 (-1), .int .i64 x] 3 isI64 ?_) (by omega) (by simp) (by omega) (by omega)).mono ?_
  · intro v hv
    simp only [List.mem_cons, List.mem_nil_iff, or_false] at hv
    unfold isI64
    rcases hv with rfl | rfl | rfl | rfl | rfl | rfl | rfl | rfl | rfl | rfl | rfl | rfl | rfl | rfl | rfl <;> exact ⟨_, rfl, by omega, by omega⟩
  · rintro e w2 ⟨⟨z, rfl, hz⟩, hw2⟩
    go_wp2_with fail
    go_ret
    exact ⟨⟨z, rfl, hz⟩, (hw.alloc _).trans hw2⟩

set_option maxHeartbeats 400000 in
theorem drawSlot_draw (w : World) (B : Nat) (a : Option Addr) (len cap : Nat) (hcode : CodeAt B w a len cap) (hB : B ≤ w.heap.size) :
    Calls Try.prog 11 #[.slice a len cap] w fun e w' => (∃ x y : Int, e = .returned (.tuple #[.int .i64 x, .int .i64 y]) ∧ isI64 x ∧ isI64 y) ∧ Below w.heap.size w w' := by
  have HC := Lib.hid (hcode.below (Below.refl B w))
  have HBS := Lib.hid hB
  clear hcode hB
  go_enter Try.func11, Try.ntmps11
  go_wp2_with fail
  refine (new_draw _ B a len cap HC.out HBS.out).mono ?_
  rintro e w1 ⟨rfl, hd1, hb1, hs1⟩
  have HB1 := Lib.hid hb1
  have HS1 := Lib.hid hs1
  clear hb1 hs1
  go_wp2_with fail
  refine (time_draw _ w.heap.size B a len cap hd1).mono ?_
  rintro e w2 ⟨⟨x, rfl, hx⟩, hw2⟩
  have HX := Lib.hid hx
  clear hx hd1
  go_wp2_with fail
  refine (below_draw _ w.heap.size B a len cap hw2.dr 8 (by omega) (by omega)).mono ?_
  rintro e w3 ⟨⟨y, rfl, hy0, hy1⟩, hw3⟩
  go_wp2_with fail
  go_ret2
  have hg := (hw2.trans hw3).grown
  exact ⟨⟨x, y - 1, rfl, HX.out, by unfold isI64; omega⟩, HB1.out.trans (grown_below hg (Nat.le_refl _) (by have := HS1.out; omega))⟩

set_option maxHeartbeats 1000000 in
theorem drawLevel_draw (w : World) (B : Nat) (a : Option Addr) (len cap : Nat) (hcode : CodeAt B w a len cap) (hB : B ≤ w.heap.size) :
    Calls Try.prog 9 #[.slice a len cap] w fun e w' => (∃ x y : Int, e = .returned (.tuple #[.int .i64 x, .int .i64 y]) ∧ isI64 x ∧ isI64 y) ∧ Below w.heap.size w w' := by
  have HC := Lib.hid (hcode.below (Below.refl B w))
  have HBS := Lib.hid hB
  clear hcode hB
  go_enter Try.func9, Try.ntmps9
  go_wp2_with fail
  refine (new_draw _ B a len cap HC.out HBS.out).mono ?_
  rintro e w1 ⟨rfl, hd1, hb1, hs1⟩
  have HB1 := Lib.hid hb1
  have HS1 := Lib.hid hs1
  clear hb1 hs1
  go_wp2_with fail
  refine (time_draw _ w.heap.size B a len cap hd1).mono ?_
  rintro e w2 ⟨⟨x, rfl, hx⟩, hw2⟩
  have HX := Lib.hid hx
  clear hx hd1
  go_wp2_with fail
  refine (once_draw _ w.heap.size B a len cap hw2.dr 3 (by omega) (by omega)).mono ?_
  rintro e w3 ⟨⟨b, rfl⟩, hw3⟩
  have hdr3 := hw3.dr
  have hg3 := (hw2.trans hw3).grown
  have HG3 := Lib.hid hg3
  clear hw2 hw3 hg3
  by_cases hgo : b = true ∧ 0 ≤ x ∧ x < 1000000000
  · obtain ⟨rfl, h0, h1⟩ := hgo
    go_wp2_with fail
    refine (below_draw _ w.heap.size B a len cap hdr3 130 (by omega) (by omega)).mono ?_
    rintro e w4 ⟨⟨y, rfl, hy0, hy1⟩, hw4⟩
    go_wp2_with fail
    go_ret2
    exact ⟨⟨x, x + y, rfl, HX.out, by unfold isI64; omega⟩, HB1.out.trans (grown_below (grown_trans HG3.out hw4.grown) (Nat.le_refl _) (by have := HS1.out; omega))⟩
  · cases b with
    | false =>
      clear hgo
      go_wp2_with fail
      refine (time_draw _ w.heap.size B a len cap hdr3).mono ?_
      rintro e w4 ⟨⟨y, rfl, hy⟩, hw4⟩
      have HY := Lib.hid hy
      clear hy
      go_wp2_with fail
      go_ret2
      exact ⟨⟨x, y, rfl, HX.out, HY.out⟩, HB1.out.trans (grown_below (grown_trans HG3.out hw4.grown) (Nat.le_refl _) (by have := HS1.out; omega))⟩
    | true =>
      by_cases h0 : 0 ≤ x
      · have h1' : ¬ x < 1000000000 := fun h => hgo ⟨rfl, h0, h⟩
        have h1 : decide (x < 1000000000) = false := by simpa using h1'
        clear hgo h1'
        go_wp2_with fail
        refine (time_draw _ w.heap.size B a len cap hdr3).mono ?_
        rintro e w4 ⟨⟨y, rfl, hy⟩, hw4⟩
        have HY := Lib.hid hy
        clear hy
        go_wp2_with fail
        go_ret2
        exact ⟨⟨x, y, rfl, HX.out, HY.out⟩, HB1.out.trans (grown_below (grown_trans HG3.out hw4.grown) (Nat.le_refl _) (by have := HS1.out; omega))⟩
      · have h1 : decide (0 ≤ x) = false := by simp; omega
        clear hgo
        go_wp2_with fail
        refine (time_draw _ w.heap.size B a len cap hdr3).mono ?_
        rintro e w4 ⟨⟨y, rfl, hy⟩, hw4⟩
        have HY := Lib.hid hy
        clear hy
        go_wp2_with fail
        go_ret2
        exact ⟨⟨x, y, rfl, HX.out, HY.out⟩, HB1.out.trans (grown_below (grown_trans HG3.out hw4.grown) (Nat.le_refl _) (by have := HS1.out; omega))⟩

open Go.Proofs.Ytkoliacbajpijaa.Whl
theorem bAfter' {B : Nat} {a w w' : World} (h : Below B a w) (h2 : Below w.heap.size w w') (hB : B ≤ w.heap.size) : Below B a w' := h.trans (h2.mono hB)
theorem lev_self (a : Int) : lev a a = 0 := lev_is0 rfl
theorem lev_comm (a b : Int) : lev a b = lev b a := by
  unfold lev
  simp only [eq_comm]
theorem lev_dig (a b : Int) (k : Nat) (h : lev a b < k) (hk : k ≤ 4) : dig a k = dig b k := by
  have h4 : lev a b ≤ 4 := by omega
  have ha := atLev rfl h4
  generalize lev a b = l at ha h h4
  rcases five h4 with rfl | rfl | rfl | rfl | rfl <;> rcases five hk with rfl | rfl | rfl | rfl | rfl <;> simp only [AtLev, dig] at * <;> omega
theorem lev_part (a b : Int) (h0 : 0 < lev a b) (h4 : lev a b ≤ 4) : dig a (lev a b) ≠ dig b (lev a b) := by
  have ha := atLev rfl h4
  generalize lev a b = l at ha h0 h4
  rcases five h4 with rfl | rfl | rfl | rfl | rfl <;> simp only [AtLev, dig] at * <;> omega
theorem at_wf {z : Int} (h0 : 0 ≤ z) (h : z ≤ 1000000000) : (Lit.int .i64 z).wf = true := WalkArith.wf_i64 (by omega)

/-- what stands above a digit -/
def top (n : Int) : Nat → Int
  | 0 => n
  | 1 => n / 64
  | 2 => n / 4096
  | 3 => n / 262144
  | 4 => n / 16777216
  | _ => n / 1073741824
theorem top_step (n : Int) (k : Nat) (h : k ≤ 4) : 64 * top n (k + 1) + dig n k = top n k := by
  rcases five h with rfl | rfl | rfl | rfl | rfl <;> simp only [top, dig] <;> omega
theorem top_bd (n : Int) (k : Nat) (h0 : 0 ≤ n) (h1 : n ≤ 1000000000) : 0 ≤ top n k ∧ top n k ≤ 1000000000 := by
  unfold top
  split <;> omega

set_option maxRecDepth 100000 in
set_option maxHeartbeats 2000000 in
theorem fnSlots_walk (w0 : World) (a : Option Addr) (len cap : Nat) (zs : List Int) (h : IsRow .u8 w0 a len cap zs) :
    Calls Try.prog 3 #[.slice a len cap] w0 fun e w' => e = .returned (.bool true) ∧ Below w0.heap.size w0 w' := by
  have hcode := h.code
  have HC := Lib.hid hcode
  have hl := hcode.le
  clear hcode h
  by_cases hbig : (1048576 : Int) < (len : Int)
  · go_enter Try.func3, Try.ntmps3
    go_wp2_with fail
    refine (big_yes _ a len cap hl hbig).mono ?_
    rintro e w' ⟨rfl, rfl⟩
    go_wp2_with fail
    go_ret
    exact ⟨rfl, Below.refl _ _⟩
  · have HL := Lib.hid hl
    have HBG := Lib.hid (show (len : Int) ≤ 1048576 by omega)
    clear hl hbig
    go_enter Try.func3, Try.ntmps3
    go_wp2_with fail
    refine (big_no _ a len cap HL.out HBG.out).mono ?_
    rintro e w' ⟨rfl, rfl⟩
    go_wp2_with fail
    refine (drawLevel_draw _ w0.heap.size a len cap HC.out (Nat.le_refl _)).mono ?_
    rintro e w1 ⟨⟨p, q, rfl, hp, hq⟩, hb1⟩
    have HP := Lib.hid (i64_lit p hp)
    have HQ := Lib.hid (i64_lit q hq)
    have HB1 := Lib.hid hb1
    clear hp hq hb1
    go_wp2_with fail
    refine (level_any p q _ HP.out HQ.out).mono ?_
    rintro e w2 ⟨rfl, n1, rfl⟩
    have HB2 := Lib.hid (below_drewN HB1.out n1)
    clear HB1
    obtain ⟨w2, hw2⟩ : ∃ w2, w2 = w1.drewN n1 := ⟨_, rfl⟩
    rw [← hw2] at HB2 ⊢
    clear hw2
    go_wp2_with fail
    refine (drawSlot_draw _ w0.heap.size a len cap (HC.out.below HB2.out) HB2.out.size).mono ?_
    rintro e w3 ⟨⟨x, y, rfl, hx, hy⟩, hb3⟩
    have HX := Lib.hid (i64_lit x hx)
    have HY := Lib.hid (i64_lit y hy)
    have HB3 := Lib.hid (bAfter' HB2.out hb3 HB2.out.size)
    clear hx hy hb3 HB2
    obtain ⟨lv, hlv⟩ : ∃ z, z = levI p q := ⟨_, rfl⟩
    rw [← hlv]
    have HLV := Lib.hid hlv
    clear hlv
    go_wp2_with fail
    refine (specLevel_any p q _ HP.out HQ.out).mono ?_
    rintro e w4 ⟨rfl, rfl⟩
    rw [← HLV.out]
    go_wp2_with fail
    refine (slot_any x y _ HX.out HY.out).mono ?_
    rintro e w4 ⟨rfl, rfl⟩
    go_wp2_with fail
    refine (specSlot_any x y _ HX.out HY.out).mono ?_
    rintro e w4 ⟨rfl, rfl⟩
    by_cases hneg : p < 0 ∨ q < 0
    · have hm : lv = -1 := by rw [HLV.out]; exact levI_bad hneg
      subst hm
      by_cases hp : p < 0
      · go_wp2_with fail
        go_ret
        exact ⟨rfl, HB3.out⟩
      · have hq : q < 0 := by omega
        clear hneg
        go_wp2_with fail
        go_ret
        exact ⟨rfl, HB3.out⟩
    · have hp0 : 0 ≤ p := by omega
      have hq0 : 0 ≤ q := by omega
      have hlv : lv = (lev p q : Int) := by rw [HLV.out]; exact levI_ok hp0 hq0
      have hl5 := lev_le p q
      obtain ⟨m, hm⟩ : ∃ m, m = lev p q := ⟨_, rfl⟩
      rw [← hm] at hlv hl5
      subst hlv
      have HM := Lib.hid hm
      clear hm hneg HLV
      have hm0 : (0 : Int) ≤ (m : Int) := by omega
      go_wp2_with fail
      go_loop [8] (fun i => ∃ k : Nat, m + 1 ≤ k ∧ (k ≤ 5 ∨ k = m + 1) ∧ i = .int .i64 k) (fun i => 6 - (intOf i).toNat)
      case atStart => exact ⟨m + 1, by omega, by omega, by go_num⟩
      case round =>
        obtain ⟨k, hk1, hk2, rfl⟩ := hrel
        by_cases hk5 : (k : Int) < 5
        · have hdd := lev_dig p q k (by have := HM.out; omega) (by omega)
          have hsp : slotI p (k : Int) = dig p k := slotI_ok hp0 (by omega) (by omega)
          have hsq : slotI q (k : Int) = dig p k := by rw [hdd]; exact slotI_ok hq0 (by omega) (by omega)
          have HSP := Lib.hid hsp
          have HSQ := Lib.hid hsq
          have HKW := Lib.hid (at_wf (z := (k : Int)) (by omega) (by omega))
          obtain ⟨d, hd⟩ : ∃ d, d = dig p k := ⟨_, rfl⟩
          rw [← hd] at HSP HSQ
          clear hdd hsp hsq hd
          go_wp2_with fail
          refine (slot_any p k _ HP.out HKW.out).mono ?_
          rintro e w4 ⟨rfl, rfl⟩
          rw [HSP.out]
          go_wp2_with fail
          refine (slot_any q k _ HQ.out HKW.out).mono ?_
          rintro e w4 ⟨rfl, rfl⟩
          rw [HSQ.out]
          go_wp2_with fail
          go_round
          case rel => exact ⟨k + 1, by omega, by omega, by go_num⟩
          case measure => simp [intOf]; omega
        · go_wp2_with fail
          refine (at_draw _ w0.heap.size a len cap (HC.out.below HB3.out) 0 (by omega)).mono ?_
          rintro e w4 ⟨⟨z0, hz0, hz1, rfl⟩, rfl⟩
          go_wp2_with fail
          refine (at_draw _ w0.heap.size a len cap (HC.out.below HB3.out) 1 (by omega)).mono ?_
          rintro e w4 ⟨⟨z1, hy0, hy1, rfl⟩, rfl⟩
          go_wp2_with fail
          obtain ⟨n, hn⟩ : ∃ n, n = z0 * 1000000 + z1 := ⟨_, rfl⟩
          have hn0 : 0 ≤ n := by omega
          have hn1 : n ≤ 1000000000 := by omega
          rw [← hn]
          have hn5 : top n 5 = 0 := by simp only [top]; omega
          have HN5 := Lib.hid hn5
          clear hn hz0 hz1 hy0 hy1 hn5
          go_loop [10, 11] (fun u i => ∃ (j : Nat) (s q : Int), j ≤ 5 ∧ Hid (s = top n j) ∧ u = .int .i64 s ∧ i = .int .i64 q ∧ q < j ∧ j ≤ q + 1) (fun _ i => (intOf i + 1).toNat)
          case atStart => exact ⟨5, 0, 4, by omega, Lib.hid HN5.out.symm, rfl, rfl, by omega, by omega⟩
          case round =>
            obtain ⟨j, s, t, hj, HS, rfl, rfl, ht1, ht2⟩ := hrel
            cases j with
            | zero =>
              obtain rfl : t = -1 := by omega
              obtain rfl : s = n := HS.out
              clear HN5 HS hj ht1 ht2 hn0 hn1
              have HPP := Lib.hid (show levI p p = 0 by rw [levI_ok hp0 hp0, lev_self]; rfl)
              have HQP := Lib.hid (show levI q p = (m : Int) by rw [levI_ok hq0 hp0, lev_comm, HM.out])
              have HMW := Lib.hid (at_wf (z := (m : Int)) (by omega) (by omega))
              go_wp2_with fail
              refine (level_any p p _ HP.out HP.out).mono ?_
              rintro e w4 ⟨rfl, n4, rfl⟩
              rw [HPP.out]
              go_wp2_with fail
              refine (level_any q p _ HQ.out HP.out).mono ?_
              rintro e w4 ⟨rfl, n5, rfl⟩
              rw [HQP.out]
              have HB5 := Lib.hid (below_drewN HB3.out (n4 + n5))
              by_cases hm0' : m = 0
              · subst hm0'
                go_wp2_with fail
                go_ret
                exact ⟨rfl, HB5.out⟩
              by_cases hm5 : m = 5
              · subst hm5
                go_wp2_with fail
                go_ret
                exact ⟨rfl, HB5.out⟩
              · have hb0 : ((m : Int) == 0) = false := by simp; omega
                have hb5 : ((m : Int) == 5) = false := by simp; omega
                have hpart := lev_part p q (by have := HM.out; omega) (by have := HM.out; omega)
                rw [← HM.out] at hpart
                have HSP := Lib.hid (show slotI p (m : Int) = dig p m from slotI_ok hp0 (by omega) (by omega))
                have HSQ := Lib.hid (show slotI q (m : Int) = dig q m from slotI_ok hq0 (by omega) (by omega))
                obtain ⟨d1, hd1⟩ : ∃ d, d = dig p m := ⟨_, rfl⟩
                obtain ⟨d2, hd2⟩ : ∃ d, d = dig q m := ⟨_, rfl⟩
                rw [← hd1] at HSP hpart
                rw [← hd2] at HSQ hpart
                have hne : (d1 == d2) = false := by simpa using hpart
                have hne2 : (d1 != d2) = true := by simpa using hpart
                clear hpart hd1 hd2 hm0' hm5
                go_wp2_with fail
                refine (slot_any p m _ HP.out HMW.out).mono ?_
                rintro e w4 ⟨rfl, rfl⟩
                rw [HSP.out]
                go_wp2_with fail
                refine (slot_any q m _ HQ.out HMW.out).mono ?_
                rintro e w4 ⟨rfl, rfl⟩
                rw [HSQ.out]
                go_wp2_with fail
                go_ret
                exact ⟨rfl, HB5.out⟩
            | succ j =>
              obtain rfl : t = (j : Int) := by omega
              have hj4 : j ≤ 4 := by omega
              have hb := top_bd n (j + 1) hn0 hn1
              have hstep := top_step n j hj4
              have hdb := dig_bd n j
              rw [← HS.out] at hb hstep
              have hsl : slotI n (j : Int) = dig n j := slotI_ok hn0 (by omega) (by omega)
              have HSL := Lib.hid hsl
              have HNW := Lib.hid (at_wf hn0 hn1)
              have HJW := Lib.hid (at_wf (z := (j : Int)) (by omega) (by omega))
              obtain ⟨d, hd⟩ : ∃ d, d = dig n j := ⟨_, rfl⟩
              rw [← hd] at HSL hstep hdb
              have HST := Lib.hid hstep
              clear hsl hd hstep
              obtain ⟨hb0, hb1⟩ := hb
              obtain ⟨hd0, hd1⟩ := hdb
              go_wp2_with fail
              refine (slot_any n j _ HNW.out HJW.out).mono ?_
              rintro e w4 ⟨rfl, rfl⟩
              rw [HSL.out]
              go_wp2_with fail
              go_round
              case rel => exact ⟨j, 64 * s + d, (j : Int) - 1, by omega, HST, rfl, rfl, by omega, by omega⟩
              case measure => simp [intOf]
end Go.Proofs.Ytkoliacbajpijaa.Draw
