/-
  Plain facts on the sum that the function Check makes over a list of bytes. No Go in sight.
-/
import Derived.Below
namespace Go.Proofs.YtgbdmpfojiihnaaDoor
open Go.RowKit

/-- one step of the sum: (a, b) behind one byte more -/
def ckStep (p : Nat × Nat) (c : UInt8) : Nat × Nat := ((p.1 + c.toNat) % 255, (p.2 + (p.1 + c.toNat) % 255) % 255)
def ck (l : List UInt8) : Nat × Nat := l.foldl ckStep (0, 0)
def ckVal (l : List UInt8) : Int := 256 * ((ck l).2 : Int) + ((ck l).1 : Int)

theorem ck_snoc (l : List UInt8) (c : UInt8) : ck (l ++ [c]) = ckStep (ck l) c := by
  unfold ck; rw [List.foldl_append]; rfl
theorem ck_lt (l : List UInt8) : (ck l).1 < 255 ∧ (ck l).2 < 255 := by
  rcases List.eq_nil_or_concat l with h | ⟨t, c, h⟩
  · subst h; decide
  · subst h; rw [List.concat_eq_append, ck_snoc]; exact ⟨Nat.mod_lt _ (by decide), Nat.mod_lt _ (by decide)⟩
theorem ck_lt' (l : List UInt8) : ((ck l).1 : Int) < 255 ∧ ((ck l).2 : Int) < 255 := by
  have := ck_lt l; omega
theorem byte_lt (c : UInt8) : (c.toNat : Int) < 256 := by have := c.toNat_lt; omega
theorem take_snoc (s : ByteArray) (k : Nat) (h : k < s.size) : s.data.toList.take (k + 1) = s.data.toList.take k ++ [s[k]] := by
  rw [List.take_succ_eq_append_getElem (by simpa using h)]; rfl
theorem ck_take_succ (s : ByteArray) (k : Nat) (h : k < s.size) :
    ((ck (s.data.toList.take (k + 1))).1 : Int) = (((ck (s.data.toList.take k)).1 : Int) + (s[k].toNat : Int)) % 255 ∧
    ((ck (s.data.toList.take (k + 1))).2 : Int) = (((ck (s.data.toList.take k)).2 : Int) + (((ck (s.data.toList.take k)).1 : Int) + (s[k].toNat : Int)) % 255) % 255 := by
  rw [take_snoc s k h, ck_snoc]
  unfold ckStep
  refine ⟨?_, ?_⟩ <;> simp only [Int.natCast_emod, Int.natCast_add] <;> rfl
theorem ret_int {k : IntKind} {a b : Int} (h : a = b) : Ending.returned (.int k a) = .returned (.int k b) := by rw [h]
end Go.Proofs.YtgbdmpfojiihnaaDoor
