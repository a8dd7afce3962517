/-
  The walk of the law FnGet. Condition: the library's table of powers of ten.
-/
import Derived.Test.YtgbdmpfojiihnaaDoorFgeW
import Derived.Test.YtgbdmpfojiihnaaDoorFgwA
import Derived.Test.YtgbdmpfojiihnaaDoorFtxS
import Derived.Test.YtgbdmpfojiihnaaDoorGotA
import Derived.Test.YtgbdmpfojiihnaaDoorBig
import Derived.Test.YtgbdmpfojiihnaaDoorWordS
import Derived.Test.YtgbdmpfojiihnaaDoorMarkA
namespace Go.Proofs.YtgbdmpfojiihnaaDoor.Frm
open Go.RowKit Go.Proofs.YtgbdmpfojiihnaaDoor.Num Go.Proofs.YtgbdmpfojiihnaaDoor.Kit Go.Proofs.YtgbdmpfojiihnaaDoor.Draw Go.Proofs.YtgbdmpfojiihnaaDoor.Kit
set_option linter.unusedVariables false
set_option linter.unusedSimpArgs false

theorem got_two (P : ByteArray) : ∃ (k d e s i : Int) (b : ByteArray) (z : Int), (∀ en, GotE P en → en = .returned (.tuple #[.agg #[.int .i64 k, .int .i64 d, .int .i64 e, .int .i64 s, .int .i64 i, .string b], .int .i64 z])) ∧ b.size ≤ maxLen ∧ ((z = 0 ∧ FOk k d e s i b.size ∧ P.data.toList = frBytes k d e s i b.data.toList) ∨ (z ≠ 0 ∧ k = 0 ∧ d = 0 ∧ e = 0 ∧ s = 0 ∧ i = 0 ∧ b = ByteArray.empty)) := by
  by_cases h : gcode P = 0
  · obtain ⟨h1, h2, h3, h4⟩ := told_len h
    refine ⟨gK P, gD P, gE P, gS P, gI P, gB P (P.size - 2), 0, ?_, ?_, .inl ⟨rfl, h3, h4⟩⟩
    · rintro en (⟨_, rfl⟩ | ⟨hc, _⟩)
      · rfl
      · exact absurd h hc
    · have := h3.bounds; unfold maxLen; omega
  · refine ⟨0, 0, 0, 0, 0, ByteArray.empty, gcode P, ?_, by decide, .inr ⟨h, rfl, rfl, rfl, rfl, rfl, rfl⟩⟩
    rintro en (⟨hc, _⟩ | ⟨_, rfl⟩)
    · exact absurd hc h
    · rfl
theorem textF_le (k d e s i : Int) (n : Nat) : (textF k d e s i n).length ≤ 200 := by
  by_cases h : FOk k d e s i n
  · obtain ⟨h1, h2, h3, h4, h5, h6, h7, h8, h9, h10, h11⟩ := h.bounds
    have a0 := kn_le k
    have a1 := blk_le d (wf_of (by omega) (by omega))
    have a2 := blk_le e (wf_of (by omega) (by omega))
    have a3 := blk_le s (wf_of (by omega) (by omega))
    have a4 := blk_le i (wf_of (by omega) (by omega))
    have a5 := blk_le (n : Int) (wf_of (by omega) (by omega))
    rw [textF, if_pos h]
    split <;> simp only [fourT, List.length_append] <;> omega
  · rw [textF, if_neg h]; simp

set_option maxRecDepth 100000 in
set_option maxHeartbeats 2000000 in
theorem fnGet_walk (w : World) (a0 : Option Addr) (len0 cap0 : Nat) (zs : List Int) (hrow : IsRow .u8 w a0 len0 cap0 zs) (htab : Lib.TabIs Tryd.prog w "internal/strconv.uint64pow10" .u64 Lib.pow10Tab) :
    Calls Tryd.prog 3 #[.slice a0 len0 cap0] w fun e w' => e = .returned (.bool true) ∧ Below w.heap.size w w' := by
  obtain ⟨cf, hcf⟩ : ∃ cf : Nat → Int, CodeIs w.heap.size w a0 len0 cap0 cf := ⟨_, hrow.codeIs⟩
  have hle := hcf.le
  have HC := Lib.hid hcf
  have HLE := Lib.hid hle
  have HTB := Lib.hid (Tab.of htab)
  clear hrow hcf hle htab
  go_enter Tryd.func3, Tryd.ntmps3
  by_cases hbig : (1048576 : Int) < (len0 : Int)
  · go_wp2_with fail
    refine (big_yes _ a0 len0 cap0 HLE.out hbig).mono ?_
    rintro e w' ⟨rfl, rfl⟩
    go_wp2_with fail
    go_ret
    exact ⟨rfl, Below.refl _ _⟩
  go_wp2_with fail
  refine (big_no _ a0 len0 cap0 HLE.out (by omega)).mono ?_
  rintro e w' ⟨rfl, rfl⟩
  have HLN := Lib.hid (show len0 ≤ 1048576 by omega)
  clear hbig
  go_wp2_with fail
  refine (Fdw.drawGet_e _ a0 len0 cap0 cf HC.out HLN.out).mono ?_
  rintro en w1 ⟨⟨P, hps, rfl⟩, hb1⟩
  have HL1 := Lib.hid hb1
  clear hb1
  obtain ⟨k, d, e, s, i, b, z, hgot, hbm, hcase⟩ := got_two P
  have HG := Lib.hid hgot
  have HCS := Lib.hid hcase
  clear hgot hcase
  go_wp2_with fail
  refine (implGet_any P _ (by omega)).mono ?_
  rintro en w2 ⟨he, hb2⟩
  obtain rfl := HG.out _ he
  have HL2 := Lib.hid (low_alloc (low_after HL1.out hb2) (.cells #[.int .i64 k, .int .i64 d, .int .i64 e, .int .i64 s, .int .i64 i, .string b] 26))
  have HA2 := Lib.hid (B6.new w2 k d e s i b 26)
  clear he hb2 HL1
  obtain ⟨b4, hb4⟩ : ∃ b, b = w2.heap.size := ⟨_, rfl⟩
  obtain ⟨v2, hv2⟩ : ∃ v, v = w2.alloc (.cells #[.int .i64 k, .int .i64 d, .int .i64 e, .int .i64 s, .int .i64 i, .string b] 26) := ⟨_, rfl⟩
  go_upto_region 5 with fail
  rw [← hb4] at HA2 ⊢
  rw [← hv2] at HA2 HL2 ⊢
  clear hb4 hv2
  go_wp2_with fail
  refine (specGet_any P _ (by omega)).mono ?_
  rintro en w3 ⟨he, hb3⟩
  obtain rfl := HG.out _ he
  have HA3 := Lib.hid ((HA2.out.below hb3).below (bOne w3 (.cells #[.int .i64 k, .int .i64 d, .int .i64 e, .int .i64 s, .int .i64 i, .string b] 26)))
  have HL3 := Lib.hid (low_alloc (low_after HL2.out hb3) (.cells #[.int .i64 k, .int .i64 d, .int .i64 e, .int .i64 s, .int .i64 i, .string b] 26))
  have HB3 := Lib.hid (B6.new w3 k d e s i b 26)
  clear he hb3 HL2 HA2 HG
  obtain ⟨b6, hb6⟩ : ∃ b, b = w3.heap.size := ⟨_, rfl⟩
  obtain ⟨v3, hv3⟩ : ∃ v, v = w3.alloc (.cells #[.int .i64 k, .int .i64 d, .int .i64 e, .int .i64 s, .int .i64 i, .string b] 26) := ⟨_, rfl⟩
  go_upto_region 6 with fail
  rw [← hb6] at HB3 ⊢
  rw [← hv3] at HB3 HA3 HL3 ⊢
  clear hb6 hv3
  go_wp2_with fail
  refine (Fdw.drawFtx_e _ a0 len0 cap0 cf ((HC.out.below HL3.out).mono HL3.out.size) HLN.out).mono ?_
  rintro en w4 ⟨⟨k2, d2, e2, s2, i2, b2, hb2s, rfl⟩, hb4⟩
  have HA4 := Lib.hid ((HA3.out.below hb4).below (bOne w4 (.cells #[.int .i64 k2, .int .i64 d2, .int .i64 e2, .int .i64 s2, .int .i64 i2, .string b2] 26)))
  have HB4 := Lib.hid ((HB3.out.below hb4).below (bOne w4 (.cells #[.int .i64 k2, .int .i64 d2, .int .i64 e2, .int .i64 s2, .int .i64 i2, .string b2] 26)))
  have HL4 := Lib.hid (low_alloc (low_after HL3.out hb4) (.cells #[.int .i64 k2, .int .i64 d2, .int .i64 e2, .int .i64 s2, .int .i64 i2, .string b2] 26))
  have HT4 := Lib.hid (B6.new w4 k2 d2 e2 s2 i2 b2 26)
  clear hb4 HL3 HA3 HB3
  obtain ⟨b8, hb8⟩ : ∃ b, b = w4.heap.size := ⟨_, rfl⟩
  obtain ⟨v4, hv4⟩ : ∃ v, v = w4.alloc (.cells #[.int .i64 k2, .int .i64 d2, .int .i64 e2, .int .i64 s2, .int .i64 i2, .string b2] 26) := ⟨_, rfl⟩
  go_upto_region 7 with fail
  rw [← hb8] at HT4 ⊢
  rw [← hv4] at HT4 HA4 HB4 HL4 ⊢
  clear hb8 hv4
  obtain ⟨c0, c1, c2, c3, c4, c5, cl⟩ := HT4.out
  go_wp2_with fail
  refine (implText_any k2 d2 e2 s2 i2 b2 _ (by unfold maxLen; omega) (HTB.out.below (Nat.le_refl _) HL4.out)).mono ?_
  rintro en w5 ⟨rfl, hb5⟩
  have HA5 := Lib.hid (HA4.out.below hb5)
  have HB5 := Lib.hid (HB4.out.below hb5)
  have HT5 := Lib.hid (HT4.out.below hb5)
  have HL5 := Lib.hid (low_after HL4.out hb5)
  clear hb5 HL4 HA4 HB4 HT4 c0 c1 c2 c3 c4 c5 cl
  obtain ⟨T, hT⟩ : ∃ T : ByteArray, T = ⟨(textF k2 d2 e2 s2 i2 b2.size).toArray⟩ := ⟨_, rfl⟩
  have HTX := Lib.hid (show (⟨(textF k2 d2 e2 s2 i2 b2.size).toArray⟩ : ByteArray) = T from hT.symm)
  have hTs : T.size ≤ 1048576 := by rw [hT, size_lit]; have := textF_le k2 d2 e2 s2 i2 b2.size; omega
  obtain ⟨N, hN⟩ : ∃ N, N = (Word.wdsB T).length := ⟨_, rfl⟩
  have hNm : N = manyF k2 d2 e2 s2 i2 b2.size := by rw [hN, hT]; exact words_text _ _ _ _ _ _
  rw [← hT]
  clear hT
  have HN := Lib.hid hN
  clear hN
  obtain ⟨x0, x1, x2, x3, x4, x5, xl⟩ := HA5.out
  obtain ⟨y0, y1, y2, y3, y4, y5, yl⟩ := HB5.out
  obtain ⟨c0, c1, c2, c3, c4, c5, cl⟩ := HT5.out
  go_wp2_with fail
  refine (specText_any k2 d2 e2 s2 i2 b2 _ (by unfold maxLen; omega)).mono ?_
  rintro en w6 ⟨rfl, hb6⟩
  rw [HTX.out]
  have HA6 := Lib.hid (HA5.out.below hb6)
  have HT6 := Lib.hid (HT5.out.below hb6)
  have HL6 := Lib.hid (low_after HL5.out hb6)
  clear hb6 HL5 HA5 HB5 HT5 x0 x1 x2 x3 x4 x5 xl y0 y1 y2 y3 y4 y5 yl c0 c1 c2 c3 c4 c5 cl
  go_wp2_with fail
  refine (row_of rfl (Word.specWords_any T _ hTs)).mono ?_
  rintro en w7 ⟨⟨ad, cp, rfl, _, _⟩, hb7⟩
  rw [← HN.out]
  have HA7 := Lib.hid (HA6.out.below hb7)
  have HT7 := Lib.hid (HT6.out.below hb7)
  have HL7 := Lib.hid (low_after HL6.out hb7)
  clear hb7 HL6 HA6 HT6 HN HTX
  obtain ⟨c0, c1, c2, c3, c4, c5, cl⟩ := HT7.out
  unfold manyF at hNm
  by_cases hok2 : FOk k2 d2 e2 s2 i2 b2.size
  · rw [if_pos hok2] at hNm
    have hfok := fokB_yes hok2
    by_cases hk2 : k2 = 1
    · rw [if_pos hk2] at hNm
      subst hNm
      subst hk2
      clear hok2
      go_wp2_with fail
      refine (specOk_any 1 d2 e2 s2 i2 b2 _ (by unfold maxLen; omega)).mono ?_
      rintro en w8 ⟨rfl, hb8⟩
      rw [hfok]
      have HA8 := Lib.hid (HA7.out.below hb8)
      have HT8 := Lib.hid (HT7.out.below hb8)
      have HL8 := Lib.hid (low_after HL7.out hb8)
      clear hb8 HL7 HA7 HT7 c0 c1 c2 c3 c4 c5 cl
      obtain ⟨x0, x1, x2, x3, x4, x5, xl⟩ := HA8.out
      obtain ⟨c0, c1, c2, c3, c4, c5, cl⟩ := HT8.out
      rcases HCS.out with ⟨hz, hok, hPB⟩ | ⟨hz, hk0, hd0, he0, hs0, hi0, hbe⟩
      · subst hz
        have HFO := Lib.hid (fokB_yes hok)
        have hput := (show (⟨(putF k d e s i b.data.toList).toArray⟩ : ByteArray) = P from ba_ext (by rw [put_text hok]; exact hPB.symm))
        have HPUT := Lib.hid hput
        clear hput hPB
        go_wp2_with fail
        refine (implOk_any k d e s i b _ hbm).mono ?_
        rintro en w9 ⟨rfl, hb9⟩
        rw [HFO.out]
        have HA9 := Lib.hid (HA8.out.below hb9)
        have HL9 := Lib.hid (low_after HL8.out hb9)
        clear hb9 HL8 HA8 HT8 c0 c1 c2 c3 c4 c5 cl x0 x1 x2 x3 x4 x5 xl
        obtain ⟨x0, x1, x2, x3, x4, x5, xl⟩ := HA9.out
        go_wp2_with fail
        refine (implPut_any k d e s i b _ hbm).mono ?_
        rintro en w10 ⟨rfl, hb10⟩
        rw [HPUT.out]
        have HL10 := Lib.hid (low_after HL9.out hb10)
        clear hb10 HL9 HA9 x0 x1 x2 x3 x4 x5 xl
        go_wp2_with fail
        go_ret
        exact ⟨rfl, HL10.out⟩
      · have hzb : (z == 0) = false := by simpa using hz
        have hzn : (z != 0) = true := by simpa using hz
        subst hk0 hd0 he0 hs0 hi0 hbe
        go_wp2_with fail
        go_ret
        exact ⟨rfl, HL8.out⟩
    · rw [if_neg hk2] at hNm
      subst hNm
      have hk2b : (k2 == 1) = false := by simpa using hk2
      clear hok2
      go_wp2_with fail
      refine (specOk_any k2 d2 e2 s2 i2 b2 _ (by unfold maxLen; omega)).mono ?_
      rintro en w8 ⟨rfl, hb8⟩
      rw [hfok]
      have HA8 := Lib.hid (HA7.out.below hb8)
      have HT8 := Lib.hid (HT7.out.below hb8)
      have HL8 := Lib.hid (low_after HL7.out hb8)
      clear hb8 HL7 HA7 HT7 c0 c1 c2 c3 c4 c5 cl
      obtain ⟨x0, x1, x2, x3, x4, x5, xl⟩ := HA8.out
      obtain ⟨c0, c1, c2, c3, c4, c5, cl⟩ := HT8.out
      rcases HCS.out with ⟨hz, hok, hPB⟩ | ⟨hz, hk0, hd0, he0, hs0, hi0, hbe⟩
      · subst hz
        have HFO := Lib.hid (fokB_yes hok)
        have hput := (show (⟨(putF k d e s i b.data.toList).toArray⟩ : ByteArray) = P from ba_ext (by rw [put_text hok]; exact hPB.symm))
        have HPUT := Lib.hid hput
        clear hput hPB
        go_wp2_with fail
        refine (implOk_any k d e s i b _ hbm).mono ?_
        rintro en w9 ⟨rfl, hb9⟩
        rw [HFO.out]
        have HA9 := Lib.hid (HA8.out.below hb9)
        have HL9 := Lib.hid (low_after HL8.out hb9)
        clear hb9 HL8 HA8 HT8 c0 c1 c2 c3 c4 c5 cl x0 x1 x2 x3 x4 x5 xl
        obtain ⟨x0, x1, x2, x3, x4, x5, xl⟩ := HA9.out
        go_wp2_with fail
        refine (implPut_any k d e s i b _ hbm).mono ?_
        rintro en w10 ⟨rfl, hb10⟩
        rw [HPUT.out]
        have HL10 := Lib.hid (low_after HL9.out hb10)
        clear hb10 HL9 HA9 x0 x1 x2 x3 x4 x5 xl
        go_wp2_with fail
        go_ret
        exact ⟨rfl, HL10.out⟩
      · have hzb : (z == 0) = false := by simpa using hz
        have hzn : (z != 0) = true := by simpa using hz
        subst hk0 hd0 he0 hs0 hi0 hbe
        go_wp2_with fail
        go_ret
        exact ⟨rfl, HL8.out⟩
  · rw [if_neg hok2] at hNm
    subst hNm
    have hfok := fokB_no hok2
    clear hok2
    go_wp2_with fail
    refine (specOk_any k2 d2 e2 s2 i2 b2 _ (by unfold maxLen; omega)).mono ?_
    rintro en w8 ⟨rfl, hb8⟩
    rw [hfok]
    have HA8 := Lib.hid (HA7.out.below hb8)
    have HT8 := Lib.hid (HT7.out.below hb8)
    have HL8 := Lib.hid (low_after HL7.out hb8)
    clear hb8 HL7 HA7 HT7 c0 c1 c2 c3 c4 c5 cl
    obtain ⟨x0, x1, x2, x3, x4, x5, xl⟩ := HA8.out
    obtain ⟨c0, c1, c2, c3, c4, c5, cl⟩ := HT8.out
    rcases HCS.out with ⟨hz, hok, hPB⟩ | ⟨hz, hk0, hd0, he0, hs0, hi0, hbe⟩
    · subst hz
      have HFO := Lib.hid (fokB_yes hok)
      have hput := (show (⟨(putF k d e s i b.data.toList).toArray⟩ : ByteArray) = P from ba_ext (by rw [put_text hok]; exact hPB.symm))
      have HPUT := Lib.hid hput
      clear hput hPB
      go_wp2_with fail
      refine (implOk_any k d e s i b _ hbm).mono ?_
      rintro en w9 ⟨rfl, hb9⟩
      rw [HFO.out]
      have HA9 := Lib.hid (HA8.out.below hb9)
      have HL9 := Lib.hid (low_after HL8.out hb9)
      clear hb9 HL8 HA8 HT8 c0 c1 c2 c3 c4 c5 cl x0 x1 x2 x3 x4 x5 xl
      obtain ⟨x0, x1, x2, x3, x4, x5, xl⟩ := HA9.out
      go_wp2_with fail
      refine (implPut_any k d e s i b _ hbm).mono ?_
      rintro en w10 ⟨rfl, hb10⟩
      rw [HPUT.out]
      have HL10 := Lib.hid (low_after HL9.out hb10)
      clear hb10 HL9 HA9 x0 x1 x2 x3 x4 x5 xl
      go_wp2_with fail
      go_ret
      exact ⟨rfl, HL10.out⟩
    · have hzb : (z == 0) = false := by simpa using hz
      have hzn : (z != 0) = true := by simpa using hz
      subst hk0 hd0 he0 hs0 hi0 hbe
      go_wp2_with fail
      go_ret
      exact ⟨rfl, HL8.out⟩
end Go.Proofs.YtgbdmpfojiihnaaDoor.Frm
