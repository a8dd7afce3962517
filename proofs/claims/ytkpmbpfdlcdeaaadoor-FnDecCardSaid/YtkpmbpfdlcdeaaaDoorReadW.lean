/-
  The walks of ReadDec, of the program and of the specification: both return readVal of the bytes, and turn nothing.
-/
import Derived.Test.YtkpmbpfdlcdeaaaDoorProg
import Derived.Test.YtkpmbpfdlcdeaaaDoorKit
import Derived.WalkLawsBesides
import Derived.Test.YtkpmbpfdlcdeaaaDoorReadA
import Derived.Test.YtkpmbpfdlcdeaaaDoorDecW
namespace Go.Proofs.YtkpmbpfdlcdeaaaDoor.Dec
open Go.RowKit Go.Proofs.YtkpmbpfdlcdeaaaDoor.Kit
set_option linter.unusedVariables false

set_option maxHeartbeats 400000 in
theorem readDec_long (s : ByteArray) (w : World) (hs : s.size ≤ maxLen) (h : s.size = 0 ∨ 9 < s.size) :
    Calls Tryd.prog 12 #[.string s] w fun e w' => e = .returned (.int .i64 (-1)) ∧ w = w' := by
  unfold maxLen at hs
  rcases h with h | h
  · have he : s.toList = [] := by rw [Lib.toList_data]; exact List.eq_nil_of_length_eq_zero (by rw [bytes_len]; exact h)
    go_enter Tryd.func12, Tryd.ntmps12
    go_wp2
    go_ret
    exact ⟨rfl, rfl⟩
  · have he : s.toList.isEmpty = false := by rw [Lib.toList_data]; cases hl : s.data.toList with
      | nil => have := bytes_len s; rw [hl] at this; simp at this; omega
      | cons _ _ => rfl
    go_enter Tryd.func12, Tryd.ntmps12
    go_wp2
    go_ret
    exact ⟨rfl, rfl⟩

theorem ne_empty (s : ByteArray) (h : 0 < s.size) : s.toList.isEmpty = false := by
  rw [Lib.toList_data]
  cases hl : s.data.toList with
  | nil => have := bytes_len s; rw [hl] at this; simp at this; omega
  | cons _ _ => rfl
theorem u48 (c : UInt8) (h : c = 48) : (c.toNat : Int) = 48 := by subst h; rfl
theorem u48' (c : UInt8) (h : c ≠ 48) : (c.toNat : Int) ≠ 48 := by
  intro e; apply h; apply UInt8.toNat_inj.1; have : c.toNat = 48 := by omega
  rw [this]; rfl

set_option maxHeartbeats 400000 in
theorem readDec_zero (s : ByteArray) (w : World) (h1 : 1 < s.size) (h9 : s.size ≤ 9) (h0 : s[0] = 48) :
    Calls Tryd.prog 12 #[.string s] w fun e w' => e = .returned (.int .i64 (-1)) ∧ w = w' := by
  have he := ne_empty s (by omega)
  have hc := u48 _ h0
  have hcb : ((s[0].toNat : Int) == 48) = true := by rw [hc]; rfl
  clear h0 hc
  go_enter Tryd.func12, Tryd.ntmps12
  go_wp2
  go_ret
  exact ⟨rfl, rfl⟩

theorem ret_int {k : IntKind} {a b : Int} (h : a = b) : Ending.returned (.int k a) = .returned (.int k b) := by rw [h]
theorem run_end (s : ByteArray) (x : Int) (h1 : 1 ≤ s.size) (h9 : s.size ≤ 9) (h0 : s.data.toList.head? = some 48 → s.size = 1) (hx : x = (dval s.data.toList : Int)) (ha : ∀ c ∈ s.data.toList, isDig c) : x = readVal s.data.toList := by
  have hl := bytes_len s
  rw [readVal_ok, hx]
  refine ⟨?_, by omega, ha, fun h => by rw [hl]; exact h0 h⟩
  intro e; rw [e] at hl; simp at hl; omega

set_option maxHeartbeats 1000000 in
theorem readDec_run0 (s : ByteArray) (w : World) (h1 : 1 ≤ s.size) (h9 : s.size ≤ 9) (h0 : s.data.toList.head? = some 48 → s.size = 1) (c0 : s[0] = 48) :
    Calls Tryd.prog 12 #[.string s] w fun e w' => e = .returned (.int .i64 (readVal s.data.toList)) ∧ w = w' := by
  have he := ne_empty s (by omega)
  have H0 := Lib.hid h0
  have hone : (s.size : Int) ≤ 1 := by have := h0 (by rw [head_at s (by omega), c0]); omega
  have hcb : ((s[0].toNat : Int) == 48) = true := by rw [u48 _ c0]; rfl
  have hdc : decide (1 < (s.size : Int)) = false := by simp; omega
  clear h0 c0
  go_enter Tryd.func12, Tryd.ntmps12
  go_wp2
  go_loop [3, 4, 22] (fun n j i => ∃ (k : Nat) (x : Int), k ≤ s.size ∧ i = .int .i64 k ∧ n = .int .i64 x ∧ 0 ≤ x ∧ Hid (x = (dval (s.data.toList.take k) : Int)) ∧ Hid (∀ c ∈ s.data.toList.take k, isDig c)) (fun _ _ i => s.size - (intOf i).toNat)
  case atStart => exact ⟨0, 0, by omega, rfl, rfl, by omega, Lib.hid rfl, Lib.hid (by intro c hc; simp at hc)⟩
  case round =>
    obtain ⟨k, x, hk, rfl, rfl, hx0, HX, HA⟩ := hrel
    by_cases hlt : k < s.size
    · have hx : x < 100000000 := by
        have h2 := dval_lt _ HA.out
        have h3 : 10 ^ (s.data.toList.take k).length ≤ 10 ^ 8 := Nat.pow_le_pow_right (by decide) (Nat.le_trans (List.length_take_le _ _) (by omega))
        have h4 : (10 : Nat) ^ 8 = 100000000 := by decide
        rw [HX.out]; omega
      have HS := Lib.hid (val_step s k hlt)
      by_cases hd : isDig s[k]
      · have HD := Lib.hid hd
        have hd1 : (48 : Int) ≤ (s[k].toNat : Int) := by unfold isDig at hd; omega
        have hd2 : (s[k].toNat : Int) ≤ 57 := by unfold isDig at hd; omega
        clear hd
        go_wp2
        go_round
        case rel =>
          have e : ((s[k].toNat - 48 : Nat) : Int) = (s[k].toNat : Int) - 48 := by omega
          exact ⟨k + 1, _, by omega, by go_num, rfl, by omega, Lib.hid (by rw [HS.out, ← HX.out, e]), Lib.hid (all_step s k hlt HA.out HD.out)⟩
        case measure => simp [intOf]; omega
      · have HB := Lib.hid (readVal_bad (bad_dig s k hlt hd))
        by_cases hd1 : (s[k].toNat : Int) < 48
        · clear hd
          go_wp2
          go_ret
          exact ⟨ret_int HB.out.symm, rfl⟩
        · have hd2 : (57 : Int) < (s[k].toNat : Int) := by unfold isDig at hd; omega
          clear hd
          go_wp2
          go_ret
          exact ⟨ret_int HB.out.symm, rfl⟩
    · obtain rfl : k = s.size := by omega
      have HT := Lib.hid (List.take_of_length_le (l := s.data.toList) (i := s.size) (by simp))
      have hall := HA.out
      rw [HT.out] at hall
      have HV := Lib.hid (run_end s x h1 h9 H0.out (HT.out ▸ HX.out) hall)
      clear hall
      go_wp2
      go_ret
      exact ⟨ret_int HV.out, rfl⟩

set_option maxHeartbeats 1000000 in
theorem readDec_run1 (s : ByteArray) (w : World) (h1 : 1 ≤ s.size) (h9 : s.size ≤ 9) (h0 : s.data.toList.head? = some 48 → s.size = 1) (c0 : s[0] ≠ 48) :
    Calls Tryd.prog 12 #[.string s] w fun e w' => e = .returned (.int .i64 (readVal s.data.toList)) ∧ w = w' := by
  have he := ne_empty s (by omega)
  have H0 := Lib.hid h0
  have hcb : ((s[0].toNat : Int) == 48) = false := by rw [beq_eq_false_iff_ne]; exact u48' _ c0
  clear h0 c0
  go_enter Tryd.func12, Tryd.ntmps12
  go_wp2
  go_loop [3, 4, 22] (fun n j i => ∃ (k : Nat) (x : Int), k ≤ s.size ∧ i = .int .i64 k ∧ n = .int .i64 x ∧ 0 ≤ x ∧ Hid (x = (dval (s.data.toList.take k) : Int)) ∧ Hid (∀ c ∈ s.data.toList.take k, isDig c)) (fun _ _ i => s.size - (intOf i).toNat)
  case atStart => exact ⟨0, 0, by omega, rfl, rfl, by omega, Lib.hid rfl, Lib.hid (by intro c hc; simp at hc)⟩
  case round =>
    obtain ⟨k, x, hk, rfl, rfl, hx0, HX, HA⟩ := hrel
    by_cases hlt : k < s.size
    · have hx : x < 100000000 := by
        have h2 := dval_lt _ HA.out
        have h3 : 10 ^ (s.data.toList.take k).length ≤ 10 ^ 8 := Nat.pow_le_pow_right (by decide) (Nat.le_trans (List.length_take_le _ _) (by omega))
        have h4 : (10 : Nat) ^ 8 = 100000000 := by decide
        rw [HX.out]; omega
      have HS := Lib.hid (val_step s k hlt)
      by_cases hd : isDig s[k]
      · have HD := Lib.hid hd
        have hd1 : (48 : Int) ≤ (s[k].toNat : Int) := by unfold isDig at hd; omega
        have hd2 : (s[k].toNat : Int) ≤ 57 := by unfold isDig at hd; omega
        clear hd
        go_wp2
        go_round
        case rel =>
          have e : ((s[k].toNat - 48 : Nat) : Int) = (s[k].toNat : Int) - 48 := by omega
          exact ⟨k + 1, _, by omega, by go_num, rfl, by omega, Lib.hid (by rw [HS.out, ← HX.out, e]), Lib.hid (all_step s k hlt HA.out HD.out)⟩
        case measure => simp [intOf]; omega
      · have HB := Lib.hid (readVal_bad (bad_dig s k hlt hd))
        by_cases hd1 : (s[k].toNat : Int) < 48
        · clear hd
          go_wp2
          go_ret
          exact ⟨ret_int HB.out.symm, rfl⟩
        · have hd2 : (57 : Int) < (s[k].toNat : Int) := by unfold isDig at hd; omega
          clear hd
          go_wp2
          go_ret
          exact ⟨ret_int HB.out.symm, rfl⟩
    · obtain rfl : k = s.size := by omega
      have HT := Lib.hid (List.take_of_length_le (l := s.data.toList) (i := s.size) (by simp))
      have hall := HA.out
      rw [HT.out] at hall
      have HV := Lib.hid (run_end s x h1 h9 H0.out (HT.out ▸ HX.out) hall)
      clear hall
      go_wp2
      go_ret
      exact ⟨ret_int HV.out, rfl⟩

theorem readDec_any (s : ByteArray) (w : World) (hs : s.size ≤ maxLen) :
    Calls Tryd.prog 12 #[.string s] w fun e w' => e = .returned (.int .i64 (readVal s.data.toList)) ∧ w = w' := by
  have hl := bytes_len s
  by_cases h : s.size = 0 ∨ 9 < s.size
  · rw [readVal_bad]
    · exact readDec_long s w hs h
    · rintro ⟨g1, g2, _, _⟩
      have : s.data.toList.length ≠ 0 := fun e => g1 (List.eq_nil_of_length_eq_zero e)
      omega
  · by_cases c0 : s[0]'(by omega) = 48
    · by_cases h1 : 1 < s.size
      · rw [readVal_bad]
        · exact readDec_zero s w h1 (by omega) c0
        · rintro ⟨_, _, _, g⟩
          have := g (by rw [head_at s (by omega), c0])
          omega
      · exact readDec_run0 s w (by omega) (by omega) (fun _ => by omega) c0
    · exact readDec_run1 s w (by omega) (by omega) (fun h => by rw [head_at s (by omega)] at h; exact absurd (Option.some.inj h) c0) c0
end Go.Proofs.YtkpmbpfdlcdeaaaDoor.Dec
