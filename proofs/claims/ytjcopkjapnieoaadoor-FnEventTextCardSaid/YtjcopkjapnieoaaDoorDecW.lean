/-
  The walk of the specification's DecText: it returns Lib.itoa of its number, and turns nothing.
-/
import Derived.Test.YtjcopkjapnieoaaDoorProg
import Derived.Test.YtjcopkjapnieoaaDoorKit
import Derived.WalkLawsBesides
import Derived.Test.YtjcopkjapnieoaaDoorDecA
namespace Go.Proofs.YtjcopkjapnieoaaDoor.Dec
open Go.RowKit Go.Proofs.YtjcopkjapnieoaaDoor.Kit
set_option linter.unusedVariables false

set_option maxHeartbeats 400000 in
theorem specDec_pos (n : Int) (w : World) (h0 : 0 < n) (h1 : n ≤ 9223372036854775807) :
    Calls Tryd.prog 11 #[.int .i64 n] w fun e w' => e = .returned (.string ⟨(Lib.itoa n).toArray⟩) ∧ w = w' := by
  have hn0 : (n == 0) = false := by simp; omega
  have hL := Lib.hid (dd_i64 n (by omega) (by omega))
  go_enter Tryd.func11, Tryd.ntmps11
  go_wp2
  go_loop [3, 4, 5] (fun o m d => ∃ (u : Int) (acc : List UInt8), Hid (dd n.natAbs = dd u.natAbs ++ acc) ∧ 0 ≤ u ∧ u ≤ n ∧ m = .int .i64 u ∧ o = .string ⟨acc.toArray⟩) (fun _ m _ => (intOf m).natAbs)
  case atStart => exact ⟨n, [], Lib.hid (by simp), by omega, by omega, rfl, rfl⟩
  case round =>
    obtain ⟨u, acc, HD, hu0, hun, rfl, rfl⟩ := hrel
    by_cases hz : u = 0
    · subst hz
      have hacc : dd n.natAbs = acc := by rw [HD.out]; simp [dd]
      have HA := Lib.hid hacc
      clear hacc
      go_wp2
      go_ret
      exact ⟨str_ext (by rw [itoa_pos n h0, HA.out]), rfl⟩
    · have hz0 : (u != 0) = true := by simp [hz]
      have hr := Int.emod_lt_of_pos u (show (0 : Int) < 10 by omega)
      have hr0 := Int.emod_nonneg u (show (10 : Int) ≠ 0 by omega)
      have hadd : ∀ wx : World, (Op.stringOp .add (ByteArray.extract ⟨#[48, 49, 50, 51, 52, 53, 54, 55, 56, 57]⟩ (u % 10).toNat (u % 10 + 1).toNat) ⟨acc.toArray⟩).run Tryd.prog wx = .ok (.string ⟨(dgt (u % 10) :: acc).toArray⟩) wx := fun wx => by
        rw [run_string_add_sum, dig_piece _ (by omega) (by omega)]
        have h1 := dig_size (u % 10)
        have h2 := size_mk acc
        have h3 : (dd n.natAbs).length = (dd u.natAbs).length + acc.length := by rw [HD.out, List.length_append]
        have h4 := hL.out
        omega
      go_wp2
      go_round
      case rel => exact ⟨u / 10, dgt (u % 10) :: acc, Lib.hid (dd_round' _ u acc _ _ (by omega) (by omega) (by omega) HD.out), by omega, by omega, rfl, rfl⟩
      case measure => simp [intOf]; omega

theorem specDec_zero (w : World) :
    Calls Tryd.prog 11 #[.int .i64 0] w fun e w' => e = .returned (.string ⟨(Lib.itoa 0).toArray⟩) ∧ w = w' := by
  go_enter Tryd.func11, Tryd.ntmps11
  go_wp2
  go_ret
  exact ⟨str_ext (by rw [itoa_zero]), rfl⟩

set_option maxHeartbeats 400000 in
theorem specDec_neg (n : Int) (w : World) (h0 : n < 0) (h1 : -9223372036854775808 ≤ n) :
    Calls Tryd.prog 11 #[.int .i64 n] w fun e w' => e = .returned (.string ⟨(Lib.itoa n).toArray⟩) ∧ w = w' := by
  have hn0 : (n == 0) = false := by simp; omega
  have hL := Lib.hid (dd_i64 n (by omega) (by omega))
  go_enter Tryd.func11, Tryd.ntmps11
  go_wp2
  go_loop [3, 4, 5] (fun o m d => ∃ (u : Int) (acc : List UInt8), Hid (dd n.natAbs = dd u.natAbs ++ acc) ∧ u ≤ 0 ∧ n ≤ u ∧ m = .int .i64 u ∧ o = .string ⟨acc.toArray⟩) (fun _ m _ => (intOf m).natAbs)
  case atStart => exact ⟨n, [], Lib.hid (by simp), by omega, by omega, rfl, rfl⟩
  case round =>
    obtain ⟨u, acc, HD, hu0, hun, rfl, rfl⟩ := hrel
    by_cases hz : u = 0
    · subst hz
      have hacc : dd n.natAbs = acc := by rw [HD.out]; simp [dd]
      have HA := Lib.hid hacc
      clear hacc
      have hadd : ∀ wx : World, (Op.stringOp .add ⟨#[45]⟩ ⟨acc.toArray⟩).run Tryd.prog wx = .ok (.string ⟨(45 :: acc).toArray⟩) wx := fun wx => by
        rw [run_string_add_sum, minus_cat]
        have h1 := size_mk [45]
        have h2 := size_mk acc
        have h4 := hL.out
        rw [HA.out] at h4
        simp at h1
        omega
      go_wp2
      go_ret
      exact ⟨str_ext (by rw [itoa_negv n h0, HA.out]), rfl⟩
    · have hz0 : (u != 0) = true := by simp [hz]
      obtain ⟨r, hr⟩ : ∃ r, r = -u % 10 := ⟨_, rfl⟩
      obtain ⟨q, hq⟩ : ∃ q, q = -(-u / 10) := ⟨_, rfl⟩
      have ht : u.tmod 10 = -r := by rw [hr]; exact tmod_np u hu0
      have hd : u.tdiv 10 = q := by rw [hq]; exact tdiv_np u hu0
      have hr1 : r < 10 := by omega
      have hr0 : 0 ≤ r := by omega
      have hq0 : q ≤ 0 := by omega
      have hq1 : u < q := by omega
      have HR := Lib.hid hr
      have HQ := Lib.hid hq
      clear hr hq
      have hneg : u < 0 := by omega
      have hadd : ∀ wx : World, (Op.stringOp .add (ByteArray.extract ⟨#[48, 49, 50, 51, 52, 53, 54, 55, 56, 57]⟩ (r).toNat (r + 1).toNat) ⟨acc.toArray⟩).run Tryd.prog wx = .ok (.string ⟨(dgt (r) :: acc).toArray⟩) wx := fun wx => by
        rw [run_string_add_sum, dig_piece _ (by omega) (by omega)]
        have h1 := dig_size (r)
        have h2 := size_mk acc
        have h3 : (dd n.natAbs).length = (dd u.natAbs).length + acc.length := by rw [HD.out, List.length_append]
        have h4 := hL.out
        omega
      by_cases hr2 : r = 0
      · subst hr2
        have hadd0 : ∀ wx : World, (Op.stringOp .add (ByteArray.extract ⟨#[48, 49, 50, 51, 52, 53, 54, 55, 56, 57]⟩ 0 1) ⟨acc.toArray⟩).run Tryd.prog wx = .ok (.string ⟨(dgt 0 :: acc).toArray⟩) wx := hadd
        clear hadd
        go_wp2
        go_round
        case rel =>
          have h1 := HR.out
          have h2 := HQ.out
          exact ⟨q, dgt 0 :: acc, Lib.hid (dd_round' _ u acc _ _ (by omega) (by omega) (by omega) HD.out), by omega, by omega, rfl, rfl⟩
        case measure => simp [intOf]; omega
      · have hr3 : 0 < r := by omega
        go_wp2
        go_round
        case rel =>
          have h1 := HR.out
          have h2 := HQ.out
          exact ⟨q, dgt r :: acc, Lib.hid (dd_round' _ u acc _ _ (by omega) (by omega) (by omega) HD.out), by omega, by omega, rfl, rfl⟩
        case measure => simp [intOf]; omega

theorem specDec_any (n : Int) (w : World) (h0 : -9223372036854775808 ≤ n) (h1 : n ≤ 9223372036854775807) :
    Calls Tryd.prog 11 #[.int .i64 n] w fun e w' => e = .returned (.string ⟨(Lib.itoa n).toArray⟩) ∧ w = w' := by
  by_cases hp : 0 < n
  · exact specDec_pos n w hp h1
  · by_cases hn : n < 0
    · exact specDec_neg n w hn h0
    · obtain rfl : n = 0 := by omega
      exact specDec_zero w
end Go.Proofs.YtjcopkjapnieoaaDoor.Dec
