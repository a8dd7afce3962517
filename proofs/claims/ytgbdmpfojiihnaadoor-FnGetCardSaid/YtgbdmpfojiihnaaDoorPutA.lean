/-
  Plain facts on the bytes of a number, the highest first. No Go in sight.
-/
import Derived.Below
import Derived.Test.YtgbdmpfojiihnaaDoorNumA
namespace Go.Proofs.YtgbdmpfojiihnaaDoor.Num
open Go.RowKit

def pb : Nat → Nat → List UInt8
  | 0, _ => []
  | b + 1, n => pb b (n / 256) ++ [UInt8.ofNat n]
theorem pb_len (b : Nat) : ∀ n, (pb b n).length = b := by
  induction b with
  | zero => intro n; rfl
  | succ b ih => intro n; rw [pb, List.length_append, ih]; rfl
theorem pb_get (b : Nat) : ∀ n j, j < b → (pb b n)[j]? = some (UInt8.ofNat (n / 256 ^ (b - 1 - j))) := by
  induction b with
  | zero => intro n j h; omega
  | succ b ih =>
    intro n j h
    rw [pb]
    by_cases hj : j < b
    · rw [List.getElem?_append_left (by rw [pb_len]; exact hj), ih _ _ hj]
      have e : b + 1 - 1 - j = (b - 1 - j) + 1 := by omega
      rw [e, Nat.pow_succ, Nat.mul_comm, Nat.div_div_eq_div_mul]
    · have : j = b := by omega
      subst this
      rw [List.getElem?_append_right (by rw [pb_len]; omega), pb_len]
      simp
theorem pb_take (b n j : Nat) (h : j < b) : (pb b n).take (j + 1) = (pb b n).take j ++ [UInt8.ofNat (n / 256 ^ (b - 1 - j))] := by
  rw [List.take_add_one, pb_get b n j h]; rfl
theorem byte_of (x : Nat) : ((UInt8.ofNat x).toNat : Int) = (x : Int) % 256 := by
  rw [UInt8.toNat_ofNat']; omega
theorem shr_eq (n b j : Nat) (q : Int) (hq : q = (b : Int) - 1 - j) (hj : j < b) : (n : Int) / 2 ^ (8 * q).toNat % 256 = ((UInt8.ofNat (n / 256 ^ (b - 1 - j))).toNat : Int) := by
  have e : (8 * q).toNat = 8 * (b - 1 - j) := by omega
  have e2 : (2 : Int) ^ (8 * (b - 1 - j)) = ((256 ^ (b - 1 - j) : Nat) : Int) := by
    rw [Int.pow_mul]; simp
  rw [byte_of, e, e2, Int.natCast_ediv]
theorem gn_pb (b : Nat) : ∀ n, gn (pb b n) = n % 256 ^ b := by
  induction b with
  | zero => intro n; simp [pb, gn, Nat.mod_one]
  | succ b ih =>
    intro n
    rw [pb, gn_snoc, ih, Nat.pow_succ, UInt8.toNat_ofNat', Nat.mul_comm (256 ^ b) 256, Nat.mod_mul]
    omega
theorem pb_cons (b : Nat) : ∀ n, pb (b + 1) n = UInt8.ofNat (n / 256 ^ b) :: pb b n := by
  induction b with
  | zero => intro n; simp [pb]
  | succ b ih =>
    intro n
    rw [pb, ih, pb, List.cons_append, Nat.pow_succ, Nat.mul_comm, Nat.div_div_eq_div_mul]
/-- the row behind j rounds: noughts, and the j lowest bytes -/
def prow (b n j : Nat) : List Value := List.replicate (b - j) (.int .u8 0) ++ (pb j n).map fun c => Value.int .u8 (c.toNat : Int)
theorem prow_len (b n j : Nat) (h : j ≤ b) : (prow b n j).length = b := by unfold prow; simp [pb_len]; omega
theorem prow_set (b n j : Nat) (h : j < b) (u : Value) (hu : u = .int .u8 (((n / 256 ^ j : Nat) : Int) % 256)) : (prow b n j).set (b - 1 - j) u = prow b n (j + 1) := by
  have e : b - j = (b - (j + 1)) + 1 := by omega
  have e2 : b - 1 - j = b - (j + 1) := by omega
  have hu2 : u = .int .u8 ((UInt8.ofNat (n / 256 ^ j)).toNat : Int) := by rw [hu, byte_of]
  unfold prow
  rw [e, e2, pb_cons, List.replicate_succ', List.append_assoc, List.set_append_right _ _ (by simp)]
  simp [hu2]
theorem div_step (n j : Nat) : (((n / 256 ^ j : Nat) : Int)) / 256 = ((n / 256 ^ (j + 1) : Nat) : Int) := by
  rw [Nat.pow_succ, ← Nat.div_div_eq_div_mul]; simp
theorem div_le (n j : Nat) (h : (n : Int) ≤ 9223372036854775807) : ((n / 256 ^ j : Nat) : Int) ≤ 9223372036854775807 := by
  have := Nat.div_le_self n (256 ^ j); omega
theorem nat_cast_nonneg (m : Nat) : (0 : Int) ≤ (m : Int) := Int.natCast_nonneg m
/-- what PutNum tells, for all numbers -/
def putOk (n b : Int) : Prop := 0 ≤ n ∧ 1 ≤ b ∧ b ≤ 4
instance (n b : Int) : Decidable (putOk n b) := by unfold putOk; infer_instance
def putVal (n b : Int) : List UInt8 := if putOk n b then pb b.toNat n.toNat else []
theorem putVal_ok {n b : Int} (h : putOk n b) : putVal n b = pb b.toNat n.toNat := if_pos h
theorem putVal_bad {n b : Int} (h : ¬ putOk n b) : putVal n b = [] := if_neg h
end Go.Proofs.YtgbdmpfojiihnaaDoor.Num
