/-
  Plain facts: a number of 0 .. 999999999 comes back from its text, another one does not. No Go in sight.
-/
import Derived.Test.YtkpmbpfdlcdeaaaDoorReadA
namespace Go.Proofs.YtkpmbpfdlcdeaaaDoor.Dec
open Go.RowKit

theorem digit_nat (d : Nat) (h : d < 10) : (UInt8.ofNat (48 + d)).toNat = 48 + d := by
  rw [UInt8.toNat_ofNat']; omega
theorem dval_dd (u : Nat) : dval (dd u) = u := by
  induction u using Nat.strongRecOn with
  | _ u ih =>
    by_cases h : u = 0
    · subst h; simp [dd, dval]
    · rw [dd_step u h, dval_snoc, ih (u / 10) (by omega), digit_nat _ (by omega)]; omega
theorem dig_dd (u : Nat) : ∀ c ∈ dd u, isDig c := by
  induction u using Nat.strongRecOn with
  | _ u ih =>
    by_cases h : u = 0
    · subst h; simp [dd]
    · intro c hc
      rw [dd_step u h] at hc
      rcases List.mem_append.1 hc with hc | hc
      · exact ih (u / 10) (by omega) c hc
      · rw [List.mem_singleton] at hc
        subst hc
        unfold isDig
        rw [digit_nat _ (by omega)]; omega
theorem dd_ne (u : Nat) (h : u ≠ 0) : dd u ≠ [] := by
  rw [dd_step u h]; simp
theorem head_dd (u : Nat) (h : u ≠ 0) : (dd u).head? ≠ some 48 := by
  induction u using Nat.strongRecOn with
  | _ u ih =>
    by_cases h1 : u < 10
    · rw [dd_step u h, show u / 10 = 0 by omega]
      simp only [dd, if_true, List.nil_append, List.head?_cons, ne_eq, Option.some.injEq]
      intro e
      have := congrArg UInt8.toNat e
      rw [digit_nat _ (by omega)] at this
      have h48 : (48 : UInt8).toNat = 48 := rfl
      omega
    · have h2 := ih (u / 10) (by omega) (by omega)
      have h3 := dd_ne (u / 10) (by omega)
      rw [dd_step u h]
      cases hd : dd (u / 10) with
      | nil => exact absurd hd h3
      | cons x t => rw [hd] at h2; simpa using h2
theorem read_back (z : Int) (h0 : 0 ≤ z) (h1 : z ≤ 999999999) : readVal (Lib.itoa z) = z := by
  obtain ⟨u, rfl⟩ := Int.eq_ofNat_of_zero_le h0
  rw [itoa_nat]
  by_cases hu : u = 0
  · subst hu
    rw [Lib.decDigits_one (by omega)]; decide
  · rw [decDigits_dd u hu, readVal_ok ⟨dd_ne u hu, dd_len u 9 (by omega), dig_dd u, fun h => absurd h (head_dd u hu)⟩, dval_dd]
theorem read_great (z : Int) (h : 999999999 < z) : readVal (Lib.itoa z) = -1 := by
  obtain ⟨u, rfl⟩ := Int.eq_ofNat_of_zero_le (show 0 ≤ z by omega)
  rw [itoa_nat, decDigits_dd u (by omega)]
  refine readVal_bad fun g => ?_
  have h1 := dval_lt (dd u) (dig_dd u)
  rw [dval_dd] at h1
  have h2 : 10 ^ (dd u).length ≤ 10 ^ 9 := Nat.pow_le_pow_right (by decide) g.2.1
  have h3 : (10 : Nat) ^ 9 = 1000000000 := by decide
  omega
theorem read_neg (z : Int) (h : z < 0) : readVal (Lib.itoa z) = -1 := by
  rw [itoa_negv z h]
  refine readVal_bad fun g => ?_
  have := g.2.2.1 45 (by simp)
  unfold isDig at this
  have h45 : (45 : UInt8).toNat = 45 := rfl
  omega
theorem read_other (z : Int) (h : ¬ (0 ≤ z ∧ z ≤ 999999999)) : readVal (Lib.itoa z) = -1 := by
  by_cases h0 : z < 0
  · exact read_neg z h0
  · exact read_great z (by omega)
end Go.Proofs.YtkpmbpfdlcdeaaaDoor.Dec
