/-
  Plain facts on frames: when one is right, its bytes. No Go in sight.
-/
import Derived.Test.YtgbdmpfojiihnaaDoorPutA
import Derived.Test.YtgbdmpfojiihnaaDoorCheckA
namespace Go.Proofs.YtgbdmpfojiihnaaDoor.Frm
open Go.RowKit Go.Proofs.YtgbdmpfojiihnaaDoor.Num
set_option linter.unusedVariables false

/-- a right frame, n bytes in its body -/
def FOk (k d e s i : Int) (n : Nat) : Prop :=
  1 ≤ k ∧ k ≤ 4 ∧ 1 ≤ d ∧ d ≤ 6 ∧ 0 ≤ e ∧ e ≤ 60000 ∧ ((k = 3 ∧ s = 0) ∨ (k ≠ 3 ∧ 1 ≤ s ∧ s ≤ 60000)) ∧ ((k = 1 ∧ 1 ≤ i ∧ i ≤ 9999 ∧ n ≤ 40) ∨ (k ≠ 1 ∧ i = 0 ∧ n = 0))
instance (k d e s i : Int) (n : Nat) : Decidable (FOk k d e s i n) := by unfold FOk; infer_instance
def fokB (k d e s i : Int) (n : Nat) : Bool := decide (FOk k d e s i n)
theorem fokB_yes {k d e s i : Int} {n : Nat} (h : FOk k d e s i n) : fokB k d e s i n = true := decide_eq_true h
theorem fokB_no {k d e s i : Int} {n : Nat} (h : ¬ FOk k d e s i n) : fokB k d e s i n = false := decide_eq_false h
theorem FOk.bounds {k d e s i : Int} {n : Nat} (h : FOk k d e s i n) : 0 ≤ k ∧ k ≤ 4 ∧ 0 ≤ d ∧ d ≤ 6 ∧ 0 ≤ e ∧ e ≤ 60000 ∧ 0 ≤ s ∧ s ≤ 60000 ∧ 0 ≤ i ∧ i ≤ 9999 ∧ n ≤ 40 := by unfold FOk at h; omega

/-- the bytes ahead of the sum -/
def head (k d e s i : Int) (b : List UInt8) : List UInt8 :=
  putVal k 1 ++ putVal d 1 ++ putVal e 2 ++ putVal s 2 ++ putVal i 2 ++ putVal b.length 1 ++ b
/-- a frame's bytes -/
def frBytes (k d e s i : Int) (b : List UInt8) : List UInt8 := head k d e s i b ++ putVal (ckVal (head k d e s i b)) 2
def putF (k d e s i : Int) (b : List UInt8) : List UInt8 := if FOk k d e s i b.length then frBytes k d e s i b else []
theorem putF_yes {k d e s i : Int} {b : List UInt8} (h : FOk k d e s i b.length) : putF k d e s i b = frBytes k d e s i b := if_pos h
theorem putF_no {k d e s i : Int} {b : List UInt8} (h : ¬ FOk k d e s i b.length) : putF k d e s i b = [] := if_neg h
theorem putVal_len {n b : Int} (h0 : 0 ≤ n) (h1 : 1 ≤ b) (h4 : b ≤ 4) : (putVal n b).length = b.toNat := by rw [putVal_ok ⟨h0, h1, h4⟩, pb_len]
theorem ckVal_bd (l : List UInt8) : 0 ≤ ckVal l ∧ ckVal l ≤ 65278 := by
  have := ck_lt' l
  unfold ckVal
  omega
theorem head_len {k d e s i : Int} {b : List UInt8} (h : FOk k d e s i b.length) : (head k d e s i b).length = 9 + b.length := by
  obtain ⟨h1, h2, h3, h4, h5, h6, h7, h8, h9, h10, h11⟩ := h.bounds
  unfold head
  simp only [List.length_append]
  rw [putVal_len h1 (by omega) (by omega), putVal_len h3 (by omega) (by omega), putVal_len h5 (by omega) (by omega), putVal_len h7 (by omega) (by omega), putVal_len h9 (by omega) (by omega), putVal_len (by omega) (by omega) (by omega)]
  omega
theorem frBytes_len {k d e s i : Int} {b : List UInt8} (h : FOk k d e s i b.length) : (frBytes k d e s i b).length = 11 + b.length := by
  unfold frBytes
  rw [List.length_append, head_len h, putVal_len (ckVal_bd _).1 (by omega) (by omega)]
  omega
end Go.Proofs.YtgbdmpfojiihnaaDoor.Frm
