/-
  The walk of the specification's ReadDec: it returns readVal of the bytes, and turns nothing. And the law's own walk.
-/
import Derived.Test.YtkpmbpfdlcdeaaaDoorReadW
namespace Go.Proofs.YtkpmbpfdlcdeaaaDoor.Dec
open Go.RowKit Go.Proofs.YtkpmbpfdlcdeaaaDoor.Kit
set_option linter.unusedVariables false
theorem digit_low (x : Int) (w : World) (h0 : 0 ≤ x) (h : x < 48) :
    Calls Tryd.prog 30 #[.int .u8 x] w fun e w' => e = .returned (.bool false) ∧ w = w' := by
  go_enter Tryd.func30, Tryd.ntmps30
  go_wp2
  go_ret
  exact ⟨rfl, rfl⟩
theorem digit_high (x : Int) (w : World) (h0 : x < 256) (h : 57 < x) :
    Calls Tryd.prog 30 #[.int .u8 x] w fun e w' => e = .returned (.bool false) ∧ w = w' := by
  have hdd : decide (x ≤ 57) = false := by simp; omega
  go_enter Tryd.func30, Tryd.ntmps30
  go_wp2
  go_ret
  exact ⟨rfl, rfl⟩
theorem digit_yes (c : UInt8) (w : World) (hc : isDig c) :
    Calls Tryd.prog 30 #[.int .u8 c.toNat] w fun e w' => e = .returned (.bool true) ∧ w = w' := by
  unfold isDig at hc
  obtain ⟨x, hx⟩ : ∃ x : Int, x = (c.toNat : Int) := ⟨_, rfl⟩
  rw [← hx]
  have h1 : 48 ≤ x := by omega
  have h2 : x ≤ 57 := by omega
  clear hx hc
  go_enter Tryd.func30, Tryd.ntmps30
  go_wp2
  go_ret
  exact ⟨rfl, rfl⟩
theorem digit_no (c : UInt8) (w : World) (hc : ¬ isDig c) :
    Calls Tryd.prog 30 #[.int .u8 c.toNat] w fun e w' => e = .returned (.bool false) ∧ w = w' := by
  unfold isDig at hc
  have := c.toNat_lt
  by_cases h : c.toNat < 48
  · exact digit_low _ w (by omega) (by omega)
  · exact digit_high _ w (by omega) (by omega)

set_option maxHeartbeats 400000 in
theorem specRead_empty (s : ByteArray) (w : World) (h : s.size = 0) :
    Calls Tryd.prog 13 #[.string s] w fun e w' => e = .returned (.int .i64 (-1)) ∧ w = w' := by
  have he : s.toList = [] := by rw [Lib.toList_data]; exact List.eq_nil_of_length_eq_zero (by rw [bytes_len]; exact h)
  go_enter Tryd.func13, Tryd.ntmps13
  go_wp2
  go_loop [3, 4] (fun n i => i = .int .i64 0 ∧ n = .int .i64 0) (fun _ i => 0)
  case atStart => exact ⟨rfl, rfl⟩
  case round =>
    obtain ⟨rfl, rfl⟩ := hrel
    go_wp2
    go_ret
    exact ⟨rfl, rfl⟩

set_option maxHeartbeats 400000 in
theorem specRead_long (s : ByteArray) (w : World) (hs : s.size ≤ maxLen) (h : 9 < s.size) :
    Calls Tryd.prog 13 #[.string s] w fun e w' => e = .returned (.int .i64 (-1)) ∧ w = w' := by
  unfold maxLen at hs
  go_enter Tryd.func13, Tryd.ntmps13
  go_wp2
  go_loop [3, 4] (fun n i => i = .int .i64 0 ∧ n = .int .i64 0) (fun _ i => 0)
  case atStart => exact ⟨rfl, rfl⟩
  case round =>
    obtain ⟨rfl, rfl⟩ := hrel
    by_cases hd : isDig s[0]
    · have HD := Lib.hid hd
      clear hd
      go_wp2_with (go_at_call 30; refine (digit_yes _ _ HD.out).mono ?_; rintro e w' ⟨rfl, rfl⟩)
      go_ret
      exact ⟨rfl, rfl⟩
    · have HD := Lib.hid hd
      clear hd
      go_wp2_with (go_at_call 30; refine (digit_no _ _ HD.out).mono ?_; rintro e w' ⟨rfl, rfl⟩)
      go_ret
      exact ⟨rfl, rfl⟩

set_option maxHeartbeats 1000000 in
theorem specRead_run (s : ByteArray) (w : World) (h1 : 1 ≤ s.size) (h9 : s.size ≤ 9) :
    Calls Tryd.prog 13 #[.string s] w fun e w' => e = .returned (.int .i64 (readVal s.data.toList)) ∧ w = w' := by
  have he := ne_empty s (by omega)
  go_enter Tryd.func13, Tryd.ntmps13
  go_wp2
  go_loop [3, 4] (fun n i => ∃ (k : Nat) (x : Int), k ≤ s.size ∧ i = .int .i64 k ∧ n = .int .i64 x ∧ 0 ≤ x ∧ Hid (x = (dval (s.data.toList.take k) : Int)) ∧ Hid (∀ c ∈ s.data.toList.take k, isDig c)) (fun _ i => s.size - (intOf i).toNat)
  case atStart => exact ⟨0, 0, by omega, rfl, rfl, by omega, Lib.hid rfl, Lib.hid (by intro c hc; simp at hc)⟩
  case round =>
    obtain ⟨k, x, hk, rfl, rfl, hx0, HX, HA⟩ := hrel
    by_cases hlt : k < s.size
    · have hx : x < 100000000 := by
        have h2 := dval_lt _ HA.out
        have h3 : 10 ^ (s.data.toList.take k).length ≤ 10 ^ 8 := Nat.pow_le_pow_right (by decide) (Nat.le_trans (List.length_take_le _ _) (by omega))
        have h4 : (10 : Nat) ^ 8 = 100000000 := by decide
        rw [HX.out]; omega
      have HS := Lib.hid (val_step s k hlt)
      by_cases hd : isDig s[k]
      · have HD := Lib.hid hd
        have hd1 : (48 : Int) ≤ (s[k].toNat : Int) := by unfold isDig at hd; omega
        have hd2 : (s[k].toNat : Int) ≤ 57 := by unfold isDig at hd; omega
        clear hd
        go_wp2_with (go_at_call 30; refine (digit_yes _ _ HD.out).mono ?_; rintro e w' ⟨rfl, rfl⟩)
        go_round
        case rel =>
          have e : ((s[k].toNat - 48 : Nat) : Int) = (s[k].toNat : Int) - 48 := by omega
          exact ⟨k + 1, _, by omega, by go_num, rfl, by omega, Lib.hid (by rw [HS.out, ← HX.out, e]; omega), Lib.hid (all_step s k hlt HA.out HD.out)⟩
        case measure => simp [intOf]; omega
      · have HB := Lib.hid (readVal_bad (bad_dig s k hlt hd))
        have HD := Lib.hid hd
        clear hd
        go_wp2_with (go_at_call 30; refine (digit_no _ _ HD.out).mono ?_; rintro e w' ⟨rfl, rfl⟩)
        go_ret
        exact ⟨ret_int HB.out.symm, rfl⟩
    · obtain rfl : k = s.size := by omega
      have HT := Lib.hid (List.take_of_length_le (l := s.data.toList) (i := s.size) (by simp))
      have hall := HA.out
      rw [HT.out] at hall
      have hxb : x < 1000000000 := by rw [HX.out]; exact dval_take_lt s _ h9 HA.out
      have hxv : x = (dval s.data.toList : Int) := by rw [HX.out, HT.out]
      have hne : s.data.toList ≠ [] := by intro e; have := bytes_len s; rw [e] at this; simp at this; omega
      have hti := text_iff s.data.toList hne hall
      by_cases hg : (s.data.toList.head? = some 48 → s.data.toList.length = 1)
      · have hq : (Lib.itoa x == s.toList) = true := by rw [hxv, hti.2 hg, Lib.toList_data]; simp
        have HV := Lib.hid (run_end s x h1 h9 (fun h => by rw [← bytes_len s]; exact hg h) hxv hall)
        clear hg hti hne hxv hall
        go_wp2_with fail
        refine (specDec_any x _ (by omega) (by omega)).mono ?_
        rintro e w' ⟨rfl, rfl⟩
        go_wp2_with fail
        go_ret
        exact ⟨ret_int HV.out, rfl⟩
      · have hq : (Lib.itoa x == s.toList) = false := by
          rw [hxv, Lib.toList_data]
          exact beq_eq_false_iff_ne.2 (fun e => hg (hti.1 e))
        have HB := Lib.hid (readVal_bad (l := s.data.toList) (fun g => hg g.2.2.2))
        clear hg hti hne hxv hall
        go_wp2_with fail
        refine (specDec_any x _ (by omega) (by omega)).mono ?_
        rintro e w' ⟨rfl, rfl⟩
        go_wp2_with fail
        go_ret
        exact ⟨ret_int HB.out.symm, rfl⟩

theorem specRead_any (s : ByteArray) (w : World) (hs : s.size ≤ maxLen) :
    Calls Tryd.prog 13 #[.string s] w fun e w' => e = .returned (.int .i64 (readVal s.data.toList)) ∧ w = w' := by
  have hl := bytes_len s
  by_cases h0 : s.size = 0
  · rw [readVal_bad]
    · exact specRead_empty s w h0
    · rintro ⟨g1, _, _, _⟩
      exact g1 (List.eq_nil_of_length_eq_zero (by omega))
  · by_cases h9 : 9 < s.size
    · rw [readVal_bad]
      · exact specRead_long s w hs h9
      · rintro ⟨_, g2, _, _⟩
        omega
    · exact specRead_run s w (by omega) (by omega)

end Go.Proofs.YtkpmbpfdlcdeaaaDoor.Dec
