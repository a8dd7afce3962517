/-
  Plain facts for the law on numbers and their bytes. No program in sight.
-/
import Derived.Test.YtkpmbpfdlcdeaaaPutA
namespace Go.Proofs.Ytkpmbpfdlcdeaaa.Num
open Go.RowKit
set_option linter.unusedVariables false

theorem pb_gn_snoc (l : List UInt8) (c : UInt8) (h : pb l.length (gn l) = l) : pb (l ++ [c]).length (gn (l ++ [c])) = l ++ [c] := by
  have hc := c.toNat_lt
  rw [List.length_append, gn_snoc]
  show pb (l.length + 1) _ = _
  rw [pb]
  have e1 : (gn l * 256 + c.toNat) / 256 = gn l := by omega
  have e2 : UInt8.ofNat (gn l * 256 + c.toNat) = c := by
    apply UInt8.toNat_inj.1
    rw [UInt8.toNat_ofNat']
    omega
  rw [e1, h, e2]
theorem pb_gn_rev (l : List UInt8) : pb l.reverse.length (gn l.reverse) = l.reverse := by
  induction l with
  | nil => rfl
  | cons c t ih => rw [List.reverse_cons]; exact pb_gn_snoc _ c ih
theorem pb_gn (l : List UInt8) : pb l.length (gn l) = l := by
  have h := pb_gn_rev l.reverse
  rw [List.reverse_reverse] at h
  exact h
theorem gcut_full (s : ByteArray) (p n : Nat) (h : p + n ≤ s.size) : (gcut s p n).length = n := by
  unfold gcut
  rw [List.length_take, List.length_drop, Array.length_toList]
  have : s.data.size = s.size := rfl
  omega
theorem put_get (s : ByteArray) (p n : Nat) (h1 : 1 ≤ n) (h4 : n ≤ 4) (h : p + n ≤ s.size) : putVal ((gn (gcut s p n) : Nat) : Int) (n : Int) = gcut s p n := by
  rw [putVal_ok ⟨Int.natCast_nonneg _, by omega, by omega⟩]
  have := pb_gn (gcut s p n)
  rw [gcut_full s p n h] at this
  simpa using this
theorem get_put (n b : Nat) (h1 : 1 ≤ b) (h4 : b ≤ 4) : gnVal (⟨#[120]⟩ ++ ⟨(pb b n).toArray⟩) 1 b = ((n % 256 ^ b : Nat) : Int) := by
  have hsz : (ByteArray.mk #[120] ++ ⟨(pb b n).toArray⟩).size = 1 + b := by
    rw [ByteArray.size_append]
    show 1 + (pb b n).toArray.size = _
    rw [List.size_toArray, pb_len]
  rw [gnVal_ok ⟨by omega, by omega, by omega, by rw [hsz]; omega⟩]
  have hc : gcut (⟨#[120]⟩ ++ ⟨(pb b n).toArray⟩) 1 b = pb b n := by
    unfold gcut
    rw [ByteArray.data_append, Array.toList_append]
    show ((120 :: (pb b n)).drop 1).take b = _
    rw [List.drop_succ_cons, List.drop_zero, List.take_of_length_le (by rw [pb_len]; exact Nat.le_refl _)]
  rw [show (1 : Int).toNat = 1 from rfl, show ((b : Nat) : Int).toNat = b by omega, hc, gn_pb]
end Go.Proofs.Ytkpmbpfdlcdeaaa.Num
