/-
  The walk of the law FnEventText.
-/
import Derived.Test.YtjcopkjapnieoaaDoorEvTI
import Derived.Test.YtjcopkjapnieoaaDoorEvWA
import Derived.Test.YtjcopkjapnieoaaDoorEvDD
import Derived.Test.YtjcopkjapnieoaaDoorWordS
import Derived.Test.YtjcopkjapnieoaaDoorBig
import Derived.Deep.DeepCutAuto
import Derived.Deep.RegionHeld3
namespace Go.Proofs.YtjcopkjapnieoaaDoor.Evt
open Go.RowKit Go.Proofs.YtjcopkjapnieoaaDoor.Kit Go.Proofs.YtjcopkjapnieoaaDoor.Draw
set_option linter.unusedVariables false
set_option linter.unusedSimpArgs false

set_option maxRecDepth 100000 in
set_option maxHeartbeats 1000000 in
theorem fnEventText_walk (w : World) (a0 : Option Addr) (len0 cap0 : Nat) (zs : List Int) (hrow : IsRow .u8 w a0 len0 cap0 zs) (ht : Tab w) (hst : Stat w) :
    Calls Tryd.prog 3 #[.slice a0 len0 cap0] w fun e w' => e = .returned (.bool true) ∧ Below w.heap.size w w' := by
  have HTB := Lib.hid ht
  have HST := Lib.hid hst
  clear ht hst
  have hcode := hrow.code
  have hle := hcode.le
  have HC := Lib.hid hcode
  have HLE := Lib.hid hle
  have HL := Lib.hid (Below.refl w.heap.size w)
  clear hrow hcode hle
  go_enter Tryd.func3, Tryd.ntmps3
  by_cases hbig : (1048576 : Int) < (len0 : Int)
  · go_wp2_with fail
    refine (big_yes _ a0 len0 cap0 HLE.out hbig).mono ?_
    rintro e w' ⟨rfl, rfl⟩
    go_wp2_with fail
    go_ret
    exact ⟨rfl, Below.refl _ _⟩
  go_wp2_with fail
  refine (big_no _ a0 len0 cap0 HLE.out (by omega)).mono ?_
  rintro e w' ⟨rfl, rfl⟩
  clear hbig
  go_wp2_with fail
  refine (drawText_draw _ a0 len0 cap0 HC.out).mono ?_
  rintro e w1 ⟨⟨i, d, c, b, a, t, r, n, s, hde, rfl⟩, hb⟩
  have HBZ := Lib.hid (show b.size ≤ maxLen from by unfold DEv at hde; unfold maxLen; omega)
  clear hde HC
  replace HL := Lib.hid (bAfter HL.out hb HL.out.size)
  replace HL := Lib.hid (bAfter HL.out (bOne _ (.cells #[.int .i64 i, .int .i64 d, .int .i64 c, .string b, .int .i64 a, .int .i64 t, .int .i64 r, .int .i64 n, .int .i64 s] 25)) HL.out.size)
  have HA := Lib.hid (B9.new w1 i d c b a t r n s 25)
  clear hb
  replace HTB := Lib.hid (HTB.out.below (Nat.le_refl _) HL.out)
  replace HST := Lib.hid (HST.out.below (Nat.le_refl _) HL.out)
  obtain ⟨cc0, cc1, cc2, cc3, cc4, cc5, cc6, cc7, cc8, ccl⟩ := HA.out
  obtain ⟨T, hT⟩ : ∃ T : ByteArray, T = (⟨(textE i d c b.size a t r n s).toArray⟩ : ByteArray) := ⟨_, rfl⟩
  have HT := Lib.hid hT
  have HTS := Lib.hid (show T.size ≤ 200 from by rw [hT]; exact text_size)
  clear hT
  go_wp2_with fail
  refine (implText_any i d c b a t r n s _ HBZ.out HTB.out HST.out).mono ?_
  rintro e w2 ⟨rfl, hb⟩
  rw [← HT.out]
  clear cc0 cc1 cc2 cc3 cc4 cc5 cc6 cc7 cc8 ccl
  replace HA := Lib.hid (HA.out.below hb)
  replace HL := Lib.hid (bAfter HL.out hb HL.out.size)
  clear hb HTB HST
  obtain ⟨cc0, cc1, cc2, cc3, cc4, cc5, cc6, cc7, cc8, ccl⟩ := HA.out
  go_wp2_with fail
  refine (specText_any i d c b a t r n s _ HBZ.out).mono ?_
  rintro e w3 ⟨rfl, hb⟩
  rw [← HT.out]
  clear cc0 cc1 cc2 cc3 cc4 cc5 cc6 cc7 cc8 ccl
  replace HA := Lib.hid (HA.out.below hb)
  replace HL := Lib.hid (bAfter HL.out hb HL.out.size)
  clear hb
  have hbt : (T.toList == T.toList) = true := by simp
  go_wp2_with fail
  refine (Word.specWords_any T _ (by have := HTS.out; omega)).mono ?_
  rintro e w4 ⟨⟨v, rfl, hown⟩, hb⟩
  have HOWN := Lib.hid hown
  replace HA := Lib.hid (HA.out.below hb)
  replace HL := Lib.hid (bAfter HL.out hb HL.out.size)
  clear hb hown hbt
  obtain ⟨cc0, cc1, cc2, cc3, cc4, cc5, cc6, cc7, cc8, ccl⟩ := HA.out
  go_wp2_with fail
  refine (specOk_any i d c b a t r n s _ HBZ.out).mono ?_
  rintro e w5 ⟨rfl, hb⟩
  clear cc0 cc1 cc2 cc3 cc4 cc5 cc6 cc7 cc8 ccl
  replace HOWN := Lib.hid (own_below HOWN.out hb)
  replace HA := Lib.hid (HA.out.below hb)
  replace HL := Lib.hid (bAfter HL.out hb HL.out.size)
  clear hb
  by_cases h : EOk i d c b.size a t r n s
  rotate_left 1
  · rw [eokB_no h]
    obtain rfl : T = ⟨#[]⟩ := by rw [HT.out, show textE i d c b.size a t r n s = [] from if_neg h]
    go_wp2_with fail
    go_ret
    exact ⟨rfl, HL.out⟩
  · rw [eokB_yes h]
    obtain ⟨xs, hxs⟩ : ∃ xs : List ByteArray, xs = Word.wdsB T := ⟨_, rfl⟩
    have hxs2 : xs = Word.bts ((numsE i d c a t r n).map Lib.itoa ++ [stN s]) := by rw [hxs, HT.out]; exact words_right h
    have hl8 : xs.length = 8 := by rw [hxs2, Word.bts_len, List.length_append, List.length_map]; rfl
    have hx0 : xs[0]? = some ⟨(Lib.itoa i).toArray⟩ := by rw [hxs2]; rfl
    have hx5 : xs[5]? = some ⟨(Lib.itoa r).toArray⟩ := by rw [hxs2]; rfl
    have hown := HOWN.out
    rw [← hxs, hl8] at hown
    obtain ⟨g, cap, hv, hcap, hgw⟩ : ∃ g cap, v = .slice (some ⟨g, 0, none⟩) 8 cap ∧ 8 ≤ cap ∧ g < w5.heap.size := by
      rcases hown.2 with ⟨_, h0⟩ | ⟨g2, cap2, cur, hv, _, hh, h1, _⟩
      · omega
      · exact ⟨g2, cap2, hv, h1, (Array.getElem?_eq_some_iff.1 hh).1⟩
    subst hv
    have hc0 : w5.cell? ⟨g, 0, none⟩ = some (.string ⟨(Lib.itoa i).toArray⟩) := by rw [hown.cellAt 0 (by omega), List.getElem?_map, hx0]; rfl
    have hc5 : w5.cell? ⟨g, 5, none⟩ = some (.string ⟨(Lib.itoa r).toArray⟩) := by rw [hown.cellAt 5 (by omega), List.getElem?_map, hx5]; rfl
    have HC0 := Lib.hid hc0
    have HC5 := Lib.hid hc5
    have HGW := Lib.hid hgw
    have hbi : 0 ≤ i ∧ i ≤ 9999 := by unfold EOk at h; omega
    have hbr : 0 ≤ r ∧ r ≤ 100000 := by unfold EOk at h; omega
    obtain ⟨hi0, hi1⟩ := hbi
    obtain ⟨hr0, hr1⟩ := hbr
    obtain ⟨P, hP⟩ : ∃ P : ByteArray, P = ⟨(Lib.itoa i).toArray⟩ := ⟨_, rfl⟩
    obtain ⟨Q, hQ⟩ : ∃ Q : ByteArray, Q = ⟨(Lib.itoa r).toArray⟩ := ⟨_, rfl⟩
    rw [← hP] at HC0
    rw [← hQ] at HC5
    have HP := Lib.hid hP
    have HQ := Lib.hid hQ
    have hpp : (P.toList == P.toList) = true := by simp
    have hqq : (Q.toList == Q.toList) = true := by simp
    clear hc0 hc5 hgw hown HOWN hx0 hx5 hxs hxs2 hl8 h hP hQ
    go_upto_region 10 with fail
    have HKS := Lib.hid (fun w' (h : Below w5.heap.size w5 w') => show Below w5.heap.size w5 w' ∧ w'.cell? ⟨g, 0, none⟩ = some (.string P) ∧ w'.cell? ⟨g, 5, none⟩ = some (.string Q) ∧ w'.cell? ⟨w1.heap.size, 0, none⟩ = some (.int .i64 i) ∧ w'.cell? ⟨w1.heap.size, 1, none⟩ = some (.int .i64 d) ∧ w'.cell? ⟨w1.heap.size, 2, none⟩ = some (.int .i64 c) ∧ w'.cell? ⟨w1.heap.size, 3, none⟩ = some (.string b) ∧ w'.cell? ⟨w1.heap.size, 4, none⟩ = some (.int .i64 a) ∧ w'.cell? ⟨w1.heap.size, 5, none⟩ = some (.int .i64 t) ∧ w'.cell? ⟨w1.heap.size, 6, none⟩ = some (.int .i64 r) ∧ w'.cell? ⟨w1.heap.size, 7, none⟩ = some (.int .i64 n) ∧ w'.cell? ⟨w1.heap.size, 8, none⟩ = some (.int .i64 s) from ⟨h, (h.cell (p := ⟨g, 0, none⟩) HGW.out).trans HC0.out, (h.cell (p := ⟨g, 5, none⟩) HGW.out).trans HC5.out, (HA.out.below h).c0, (HA.out.below h).c1, (HA.out.below h).c2, (HA.out.below h).c3, (HA.out.below h).c4, (HA.out.below h).c5, (HA.out.below h).c6, (HA.out.below h).c7, (HA.out.below h).c8⟩)
    have HD0 := Lib.hid (show Below w5.heap.size w5 w5.drew from below_drewE (Below.refl _ _))
    go_region_held3 (fun w' => Below w5.heap.size w5 w' ∧ w'.cell? ⟨g, 0, none⟩ = some (.string P) ∧ w'.cell? ⟨g, 5, none⟩ = some (.string Q) ∧ w'.cell? ⟨w1.heap.size, 0, none⟩ = some (.int .i64 i) ∧ w'.cell? ⟨w1.heap.size, 1, none⟩ = some (.int .i64 d) ∧ w'.cell? ⟨w1.heap.size, 2, none⟩ = some (.int .i64 c) ∧ w'.cell? ⟨w1.heap.size, 3, none⟩ = some (.string b) ∧ w'.cell? ⟨w1.heap.size, 4, none⟩ = some (.int .i64 a) ∧ w'.cell? ⟨w1.heap.size, 5, none⟩ = some (.int .i64 t) ∧ w'.cell? ⟨w1.heap.size, 6, none⟩ = some (.int .i64 r) ∧ w'.cell? ⟨w1.heap.size, 7, none⟩ = some (.int .i64 n) ∧ w'.cell? ⟨w1.heap.size, 8, none⟩ = some (.int .i64 s))
      (first
        | exact HKS.out _ HD0.out
        | assumption)
      (first
        | (go_at_call 11; with_reducible refine (Dec.specDec_any i _ (by omega) (by omega)).mono ?_; rintro e w7 ⟨rfl, rfl⟩; rw [← HP.out])
        | (go_at_call 11; with_reducible refine (Dec.specDec_any r _ (by omega) (by omega)).mono ?_; rintro e w7 ⟨rfl, rfl⟩; rw [← HQ.out]))
    all_goals
      go_wp2_with fail
      go_ret
      exact ⟨rfl, bAfter HL.out HD0.out HL.out.size⟩
end Go.Proofs.YtjcopkjapnieoaaDoor.Evt
