/-
  Plain facts on the decimal text of a number. No Go in sight.
-/
import Derived.Below
import Derived.Lib.ItoaNum
import Derived.Lib.ItoaMem
import Derived.Lib.Strings
namespace Go.Proofs.YtjcopkjapnieoaaDoor.Dec
open Go.RowKit

/-- the digits of u, none for 0 -/
def dd (u : Nat) : List UInt8 := if u = 0 then [] else Lib.decDigits u
theorem dd_step (u : Nat) (h : u ≠ 0) : dd u = dd (u / 10) ++ [UInt8.ofNat (48 + u % 10)] := by
  unfold dd
  rw [if_neg h]
  by_cases h1 : u < 10
  · rw [if_pos (by omega), Lib.decDigits_one h1, Nat.mod_eq_of_lt h1]; rfl
  · rw [if_neg (by omega), Lib.decDigits, dif_neg h1]
theorem dd_len (u : Nat) : ∀ k, u < 10 ^ k → (dd u).length ≤ k := by
  intro k
  induction k generalizing u with
  | zero => intro h; have : u = 0 := by simpa using h
            subst this; simp [dd]
  | succ k ih =>
    intro h
    by_cases h0 : u = 0
    · subst h0; simp [dd]
    · rw [dd_step u h0, List.length_append]
      have := ih (u / 10) (by rw [Nat.pow_succ] at h; omega)
      simp; omega
theorem itoa_pos (n : Int) (h : 0 < n) : Lib.itoa n = dd n.natAbs := by
  unfold Lib.itoa dd
  rw [if_neg (by omega), if_neg (by omega)]
  congr 1; omega
theorem itoa_negv (n : Int) (h : n < 0) : Lib.itoa n = 45 :: dd n.natAbs := by
  unfold Lib.itoa dd
  rw [if_pos h, if_neg (by omega)]
theorem itoa_zero : Lib.itoa 0 = [48] := by
  unfold Lib.itoa; rw [if_neg (by omega)]; rw [show (0 : Int).toNat = 0 from rfl, Lib.decDigits_one (by omega)]; rfl
/-- the digit r as a byte; plain, so that nobody rewrites it -/
def dgt (r : Int) : UInt8 := UInt8.ofNat (48 + r.toNat)
theorem dig_fin : ∀ i : Fin 10, List.take 1 (List.drop i.val ([48, 49, 50, 51, 52, 53, 54, 55, 56, 57] : List UInt8)) = [UInt8.ofNat (48 + i.val)] := by decide +kernel
theorem dig_piece (r : Int) (h0 : 0 ≤ r) (h1 : r < 10) (acc : List UInt8) :
    (ByteArray.extract ⟨#[48, 49, 50, 51, 52, 53, 54, 55, 56, 57]⟩ r.toNat (r + 1).toNat ++ (⟨acc.toArray⟩ : ByteArray)) = ⟨(dgt r :: acc).toArray⟩ := by
  unfold dgt
  obtain ⟨k, rfl⟩ := Int.eq_ofNat_of_zero_le h0
  have hk : k < 10 := by omega
  have h := dig_fin ⟨k, hk⟩
  rw [show ((k : Int) + 1).toNat = k + 1 by omega, show ((k : Int)).toNat = k by omega]
  apply ByteArray.ext
  rw [ByteArray.data_append]
  apply Array.ext'
  rw [Array.toList_append, Lib.extract_data, show k + 1 - k = 1 by omega]
  show List.take 1 (List.drop k [48, 49, 50, 51, 52, 53, 54, 55, 56, 57]) ++ acc.toArray.toList = _
  rw [h]
  simp
theorem dig_size (r : Int) : (ByteArray.extract ⟨#[48, 49, 50, 51, 52, 53, 54, 55, 56, 57]⟩ r.toNat (r + 1).toNat).size ≤ 10 := by
  rw [ByteArray.size_extract]
  have : (ByteArray.mk #[48, 49, 50, 51, 52, 53, 54, 55, 56, 57]).size = 10 := rfl
  omega
theorem size_mk (acc : List UInt8) : (ByteArray.mk acc.toArray).size = acc.length := by show acc.toArray.size = _; simp
theorem dd_i64 (n : Int) (h0 : -9223372036854775808 ≤ n) (h1 : n ≤ 9223372036854775807) : (dd n.natAbs).length ≤ 19 := dd_len _ 19 (by omega)
/-- one round: the digit goes ahead -/
theorem dd_round (N u : Nat) (acc : List UInt8) (hu : u ≠ 0) (h : dd N = dd u ++ acc) : dd N = dd (u / 10) ++ (UInt8.ofNat (48 + u % 10) :: acc) := by
  rw [h, dd_step u hu]; simp
theorem dd_round' (N : Nat) (u : Int) (acc : List UInt8) (r q : Int) (hu : u ≠ 0) (hr : r.toNat = u.natAbs % 10) (hq : q.natAbs = u.natAbs / 10) (h : dd N = dd u.natAbs ++ acc) : dd N = dd q.natAbs ++ (dgt r :: acc) := by
  rw [dd_round N u.natAbs acc (by omega) h, hq, dgt, hr]
theorem minus_cat (acc : List UInt8) : (⟨#[45]⟩ : ByteArray) ++ (⟨acc.toArray⟩ : ByteArray) = ⟨(45 :: acc).toArray⟩ := by
  apply ByteArray.ext
  rw [ByteArray.data_append]
  apply Array.ext'
  rw [Array.toList_append]
  simp
theorem tmod_np (u : Int) (h : u ≤ 0) : u.tmod 10 = -(-u % 10) := by
  rw [← Int.neg_neg u, Int.neg_tmod, Int.tmod_eq_emod_of_nonneg (by omega)]; simp
theorem tdiv_np (u : Int) (h : u ≤ 0) : u.tdiv 10 = -(-u / 10) := by
  rw [← Int.neg_neg u, Int.neg_tdiv, Int.tdiv_eq_ediv_of_nonneg (by omega)]; simp
end Go.Proofs.YtjcopkjapnieoaaDoor.Dec
