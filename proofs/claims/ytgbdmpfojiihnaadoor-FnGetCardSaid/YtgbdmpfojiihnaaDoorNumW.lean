/-
  The walks of GetNum, of the program and of the specification: both return gnVal, and turn nothing.
-/
import Derived.Test.YtgbdmpfojiihnaaDoorProg
import Derived.WalkKit
import Derived.WalkSpells
import Derived.WalkLawsBesides
import Derived.Lib.Hide
import Derived.Test.YtgbdmpfojiihnaaDoorNumA
namespace Go.Proofs.YtgbdmpfojiihnaaDoor.Num
open Go.RowKit
set_option linter.unusedVariables false
theorem or_byte (x : Int) (c : UInt8) (hx : 0 ≤ x) (hx1 : x < 16777216) : bits .or .i64 (x * 256) (wrap64 c.toNat) = x * 256 + (c.toNat : Int) := by
  have hc := byte_lt c
  rw [IntWalk.wrap64_in (c.toNat : Int) ⟨by omega, by omega⟩]
  exact bits_join .i64 62 (by decide) (fun n h0 h1 => by rw [IntKind.wrap_i64]; omega) 8 (x * 256) _ (by omega) (by omega) (by omega) (by omega) (by omega) (by omega)
theorem add_byte (x : Int) (c : UInt8) (hx : 0 ≤ x) (hx1 : x < 16777216) : wrap64 (x * 256 + wrap64 c.toNat) = x * 256 + (c.toNat : Int) := by
  have hc := byte_lt c
  rw [IntWalk.wrap64_in (c.toNat : Int) ⟨by omega, by omega⟩, IntWalk.wrap64_in _ ⟨by omega, by omega⟩]
set_option maxHeartbeats 400000 in
theorem getNum_ok (s : ByteArray) (p n : Nat) (w : World) (hs : s.size ≤ maxLen) (hn1 : 1 ≤ n) (hn4 : n ≤ 4) (hp : p + n ≤ s.size) :
    Calls Tryd.prog 44 #[.string s, .int .i64 p, .int .i64 n] w fun e w' => e = .returned (.int .i64 (gn (gcut s p n) : Int)) ∧ w = w' := by
  unfold maxLen at hs
  go_enter Tryd.func44, Tryd.ntmps44
  go_wp2
  go_loop [7, 8, 25] (fun m j i => ∃ (k : Nat) (x : Int), k ≤ n ∧ i = .int .i64 k ∧ m = .int .i64 x ∧ Hid (x = (gn (gcut s p k) : Int))) (fun _ _ i => n - (intOf i).toNat)
  case atStart => exact ⟨0, 0, by omega, rfl, rfl, Lib.hid rfl⟩
  case round =>
    obtain ⟨k, x, hk, rfl, rfl, HX⟩ := hrel
    by_cases hlt : k < n
    · have hpk : p + k < s.size := by omega
      have hst := gcut_step s p k hpk
      have hx : x < 16777216 := by rw [HX.out]; exact gn_cut_lt s p k (by omega)
      have hx0 : 0 ≤ x := by rw [HX.out]; omega
      rw [← HX.out] at hst
      have HS := Lib.hid hst
      clear hst HX
      go_wp2
      go_round
      case rel => exact ⟨k + 1, _, by omega, by go_num, rfl, Lib.hid (by rw [HS.out, or_byte _ _ hx0 hx])⟩
      case measure => simp [intOf]; omega
    · go_wp2
      go_ret
      obtain rfl : k = n := by omega
      exact ⟨ret_int HX.out, rfl⟩

set_option maxHeartbeats 400000 in
theorem getNum_bad (s : ByteArray) (p n : Int) (w : World) (hs : s.size ≤ maxLen) (hb : ¬ gnOk s p n) :
    Calls Tryd.prog 44 #[.string s, .int .i64 p, .int .i64 n] w fun e w' => e = .returned (.int .i64 (-1)) ∧ w = w' := by
  unfold maxLen at hs
  unfold gnOk at hb
  by_cases h1 : n < 1
  · clear hb
    go_enter Tryd.func44, Tryd.ntmps44
    go_wp2
    go_ret
    exact ⟨rfl, rfl⟩
  by_cases h4 : 4 < n
  · clear hb
    go_enter Tryd.func44, Tryd.ntmps44
    go_wp2
    go_ret
    exact ⟨rfl, rfl⟩
  by_cases hp : p < 0
  · clear hb
    go_enter Tryd.func44, Tryd.ntmps44
    go_wp2
    go_ret
    exact ⟨rfl, rfl⟩
  · have hq : (s.size : Int) - n < p := by omega
    clear hb
    go_enter Tryd.func44, Tryd.ntmps44
    go_wp2
    go_ret
    exact ⟨rfl, rfl⟩
theorem getNum_any (s : ByteArray) (p n : Int) (w : World) (hs : s.size ≤ maxLen) :
    Calls Tryd.prog 44 #[.string s, .int .i64 p, .int .i64 n] w fun e w' => e = .returned (.int .i64 (gnVal s p n)) ∧ w = w' := by
  by_cases h : gnOk s p n
  · rw [gnVal_ok h]
    unfold gnOk at h
    obtain ⟨n, rfl⟩ := Int.eq_ofNat_of_zero_le (show 0 ≤ n by omega)
    obtain ⟨p, rfl⟩ := Int.eq_ofNat_of_zero_le h.2.2.1
    exact getNum_ok s p n w hs (by omega) (by omega) (by omega)
  · rw [gnVal_bad h]
    exact getNum_bad s p n w hs h

set_option maxHeartbeats 400000 in
theorem specGetNum_ok (s : ByteArray) (p n : Nat) (w : World) (hs : s.size ≤ maxLen) (hn1 : 1 ≤ n) (hn4 : n ≤ 4) (hp : p + n ≤ s.size) :
    Calls Tryd.prog 25 #[.string s, .int .i64 p, .int .i64 n] w fun e w' => e = .returned (.int .i64 (gn (gcut s p n) : Int)) ∧ w = w' := by
  unfold maxLen at hs
  go_enter Tryd.func25, Tryd.ntmps25
  go_wp2
  go_loop [7, 8] (fun m i => ∃ (k : Nat) (x : Int), k ≤ n ∧ i = .int .i64 k ∧ m = .int .i64 x ∧ Hid (x = (gn (gcut s p k) : Int))) (fun _ i => n - (intOf i).toNat)
  case atStart => exact ⟨0, 0, by omega, rfl, rfl, Lib.hid rfl⟩
  case round =>
    obtain ⟨k, x, hk, rfl, rfl, HX⟩ := hrel
    by_cases hlt : k < n
    · have hpk : p + k < s.size := by omega
      have hst := gcut_step s p k hpk
      have hx : x < 16777216 := by rw [HX.out]; exact gn_cut_lt s p k (by omega)
      have hx0 : 0 ≤ x := by rw [HX.out]; omega
      rw [← HX.out] at hst
      have HS := Lib.hid hst
      clear hst HX
      go_wp2
      go_round
      case rel => exact ⟨k + 1, _, by omega, by go_num, rfl, Lib.hid (by rw [HS.out, add_byte _ _ hx0 hx])⟩
      case measure => simp [intOf]; omega
    · go_wp2
      go_ret
      obtain rfl : k = n := by omega
      exact ⟨ret_int HX.out, rfl⟩

set_option maxHeartbeats 400000 in
theorem specGetNum_bad (s : ByteArray) (p n : Int) (w : World) (hs : s.size ≤ maxLen) (hb : ¬ gnOk s p n) :
    Calls Tryd.prog 25 #[.string s, .int .i64 p, .int .i64 n] w fun e w' => e = .returned (.int .i64 (-1)) ∧ w = w' := by
  unfold maxLen at hs
  unfold gnOk at hb
  by_cases h1 : n < 1
  · clear hb
    go_enter Tryd.func25, Tryd.ntmps25
    go_wp2
    go_ret
    exact ⟨rfl, rfl⟩
  by_cases h4 : 4 < n
  · clear hb
    go_enter Tryd.func25, Tryd.ntmps25
    go_wp2
    go_ret
    exact ⟨rfl, rfl⟩
  by_cases hp : p < 0
  · clear hb
    go_enter Tryd.func25, Tryd.ntmps25
    go_wp2
    go_ret
    exact ⟨rfl, rfl⟩
  · have hq : (s.size : Int) - n < p := by omega
    clear hb
    go_enter Tryd.func25, Tryd.ntmps25
    go_wp2
    go_ret
    exact ⟨rfl, rfl⟩
theorem specGetNum_any (s : ByteArray) (p n : Int) (w : World) (hs : s.size ≤ maxLen) :
    Calls Tryd.prog 25 #[.string s, .int .i64 p, .int .i64 n] w fun e w' => e = .returned (.int .i64 (gnVal s p n)) ∧ w = w' := by
  by_cases h : gnOk s p n
  · rw [gnVal_ok h]
    unfold gnOk at h
    obtain ⟨n, rfl⟩ := Int.eq_ofNat_of_zero_le (show 0 ≤ n by omega)
    obtain ⟨p, rfl⟩ := Int.eq_ofNat_of_zero_le h.2.2.1
    exact specGetNum_ok s p n w hs (by omega) (by omega) (by omega)
  · rw [gnVal_bad h]
    exact specGetNum_bad s p n w hs h

end Go.Proofs.YtgbdmpfojiihnaaDoor.Num
