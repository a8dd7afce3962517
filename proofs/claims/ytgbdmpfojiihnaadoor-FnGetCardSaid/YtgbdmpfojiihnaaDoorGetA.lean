/-
  Plain facts on what bytes tell of a frame. No Go in sight.
-/
import Derived.Test.YtgbdmpfojiihnaaDoorFrmA
import Derived.Test.YtgbdmpfojiihnaaDoorNumA
namespace Go.Proofs.YtgbdmpfojiihnaaDoor.Frm
open Go.RowKit Go.Proofs.YtgbdmpfojiihnaaDoor.Num
set_option linter.unusedVariables false

/-- the frame that a text's bytes would be -/
def gK (s : ByteArray) : Int := gnVal s 0 1
def gD (s : ByteArray) : Int := gnVal s 1 1
def gE (s : ByteArray) : Int := gnVal s 2 2
def gS (s : ByteArray) : Int := gnVal s 4 2
def gI (s : ByteArray) : Int := gnVal s 6 2
def gB (s : ByteArray) (m : Nat) : ByteArray := s.extract 9 m
/-- the bytes of the frame that a text of m bytes and a sum would be -/
def gP (s : ByteArray) (m : Nat) : List UInt8 := putF (gK s) (gD s) (gE s) (gS s) (gI s) (gB s m).data.toList
/-- the sum is the bytes' own -/
def sumOk (s : ByteArray) (m : Nat) : Prop := gnVal s (m : Int) 2 = ckVal (List.take m s.data.toList)
instance (s : ByteArray) (m : Nat) : Decidable (sumOk s m) := by unfold sumOk; infer_instance
/-- what reading tells: 0, or why not -/
def gcode (s : ByteArray) : Int :=
  if s.size < 11 then 1 else if ¬ sumOk s (s.size - 2) then 2 else if gP s (s.size - 2) = s.data.toList then 0 else 3
theorem gcode_short {s : ByteArray} (h : s.size < 11) : gcode s = 1 := if_pos h
theorem gcode_sum {s : ByteArray} {m : Nat} (hm : s.size = m + 2) (h : ¬ s.size < 11) (h2 : ¬ sumOk s m) : gcode s = 2 := by
  rw [gcode, if_neg h, show s.size - 2 = m by omega, if_pos h2]
theorem gcode_form {s : ByteArray} {m : Nat} (hm : s.size = m + 2) (h : ¬ s.size < 11) (h2 : sumOk s m) (h3 : gP s m ≠ s.data.toList) : gcode s = 3 := by
  rw [gcode, if_neg h, show s.size - 2 = m by omega, if_neg (fun x => x h2), if_neg h3]
theorem gcode_ok {s : ByteArray} {m : Nat} (hm : s.size = m + 2) (h : ¬ s.size < 11) (h2 : sumOk s m) (h3 : gP s m = s.data.toList) : gcode s = 0 := by
  rw [gcode, if_neg h, show s.size - 2 = m by omega, if_neg (fun x => x h2), if_pos h3]
theorem gnVal_bd (s : ByteArray) (p n : Int) (h : n ≤ 4) : -1 ≤ gnVal s p n ∧ gnVal s p n ≤ 4294967295 := by
  by_cases hk : gnOk s p n
  · rw [gnVal_ok hk]
    unfold gnOk at hk
    have h1 := gn_lt (gcut s p.toNat n.toNat)
    have h2 := gcut_len s p.toNat n.toNat
    have h3 : 256 ^ (gcut s p.toNat n.toNat).length ≤ 256 ^ 4 := Nat.pow_le_pow_right (by decide) (by omega)
    have h4 : (256 : Nat) ^ 4 = 4294967296 := by decide
    omega
  · rw [gnVal_bad hk]; omega
theorem ext_size (s : ByteArray) (i j : Nat) (hj : j ≤ s.size) : (s.extract i j).size = j - i := by
  rw [ByteArray.size_extract]; omega
end Go.Proofs.YtgbdmpfojiihnaaDoor.Frm
