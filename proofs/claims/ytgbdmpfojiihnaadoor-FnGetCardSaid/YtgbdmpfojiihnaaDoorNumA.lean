/-
  Plain facts on numbers read from bytes, the highest first. No Go in sight.
-/
import Derived.Below
namespace Go.Proofs.YtgbdmpfojiihnaaDoor.Num
open Go.RowKit

def gn (l : List UInt8) : Nat := l.foldl (fun n c => n * 256 + c.toNat) 0
theorem gn_snoc (l : List UInt8) (c : UInt8) : gn (l ++ [c]) = gn l * 256 + c.toNat := by
  unfold gn; rw [List.foldl_append]; rfl
theorem gn_lt_aux (l : List UInt8) : ∀ a : Nat, l.foldl (fun n c => n * 256 + c.toNat) a < (a + 1) * 256 ^ l.length := by
  induction l with
  | nil => intro a; simp
  | cons c t ih =>
    intro a
    have h := ih (a * 256 + c.toNat)
    have hc := c.toNat_lt
    have h2 : (a * 256 + c.toNat + 1) * 256 ^ t.length ≤ ((a + 1) * 256) * 256 ^ t.length := Nat.mul_le_mul_right _ (by omega)
    rw [List.foldl_cons, List.length_cons, Nat.pow_succ, Nat.mul_comm (256 ^ t.length) 256, ← Nat.mul_assoc]
    omega
theorem gn_lt (l : List UInt8) : gn l < 256 ^ l.length := by
  have h := gn_lt_aux l 0
  simpa [gn] using h

/-- the bytes that GetNum reads: n of them from place p on -/
def gcut (s : ByteArray) (p n : Nat) : List UInt8 := (s.data.toList.drop p).take n
def gnOk (s : ByteArray) (p n : Int) : Prop := 1 ≤ n ∧ n ≤ 4 ∧ 0 ≤ p ∧ p ≤ s.size - n
instance (s : ByteArray) (p n : Int) : Decidable (gnOk s p n) := by unfold gnOk; infer_instance
def gnVal (s : ByteArray) (p n : Int) : Int := if gnOk s p n then (gn (gcut s p.toNat n.toNat) : Int) else -1
theorem gcut_snoc (s : ByteArray) (p k : Nat) (h : p + k < s.size) : gcut s p (k + 1) = gcut s p k ++ [s[p + k]] := by
  unfold gcut
  have h1 : k < (s.data.toList.drop p).length := by rw [List.length_drop, Array.length_toList]; have : s.data.size = s.size := rfl; omega
  rw [List.take_succ_eq_append_getElem h1, List.getElem_drop]; rfl
theorem gcut_step (s : ByteArray) (p k : Nat) (h : p + k < s.size) : ((gn (gcut s p (k + 1)) : Nat) : Int) = (gn (gcut s p k) : Int) * 256 + (s[p + k].toNat : Int) := by
  rw [gcut_snoc s p k h, gn_snoc]; omega
theorem gcut_len (s : ByteArray) (p k : Nat) : (gcut s p k).length ≤ k := by unfold gcut; exact List.length_take_le _ _
theorem gn_cut_lt (s : ByteArray) (p k : Nat) (h : k ≤ 3) : (gn (gcut s p k) : Int) < 16777216 := by
  have h1 := gn_lt (gcut s p k)
  have h2 : 256 ^ (gcut s p k).length ≤ 256 ^ 3 := Nat.pow_le_pow_right (by decide) (Nat.le_trans (gcut_len s p k) h)
  have h3 : (256 : Nat) ^ 3 = 16777216 := by decide
  omega
theorem byte_lt (c : UInt8) : (c.toNat : Int) < 256 := by have := c.toNat_lt; omega
theorem ret_int {k : IntKind} {a b : Int} (h : a = b) : Ending.returned (.int k a) = .returned (.int k b) := by rw [h]
theorem gnVal_bad {s : ByteArray} {p n : Int} (h : ¬ gnOk s p n) : gnVal s p n = -1 := if_neg h
theorem gnVal_ok {s : ByteArray} {p n : Int} (h : gnOk s p n) : gnVal s p n = (gn (gcut s p.toNat n.toNat) : Int) := if_pos h
end Go.Proofs.YtgbdmpfojiihnaaDoor.Num
