/-
  Plain facts on frames: when one is right, its bytes, and what its bytes tell. No Go in sight.
-/
import Derived.Test.YtgbdmpfojiihnaaPutA
import Derived.Test.YtgbdmpfojiihnaaCheckA
import Derived.Lib.UnsafeStr
namespace Go.Proofs.Ytgbdmpfojiihnaa.Frm
open Go.RowKit Go.Proofs.Ytgbdmpfojiihnaa.Num
set_option linter.unusedVariables false

/-- a right frame, n bytes in its body -/
def FOk (k d e s i : Int) (n : Nat) : Prop :=
  1 ≤ k ∧ k ≤ 4 ∧ 1 ≤ d ∧ d ≤ 6 ∧ 0 ≤ e ∧ e ≤ 60000 ∧ ((k = 3 ∧ s = 0) ∨ (k ≠ 3 ∧ 1 ≤ s ∧ s ≤ 60000)) ∧ ((k = 1 ∧ 1 ≤ i ∧ i ≤ 9999 ∧ n ≤ 40) ∨ (k ≠ 1 ∧ i = 0 ∧ n = 0))
instance (k d e s i : Int) (n : Nat) : Decidable (FOk k d e s i n) := by unfold FOk; infer_instance
def fokB (k d e s i : Int) (n : Nat) : Bool := decide (FOk k d e s i n)
theorem fokB_yes {k d e s i : Int} {n : Nat} (h : FOk k d e s i n) : fokB k d e s i n = true := decide_eq_true h
theorem fokB_no {k d e s i : Int} {n : Nat} (h : ¬ FOk k d e s i n) : fokB k d e s i n = false := decide_eq_false h

/-- the bytes ahead of the sum -/
def head (k d e s i : Int) (b : List UInt8) : List UInt8 :=
  putVal k 1 ++ (putVal d 1 ++ (putVal e 2 ++ (putVal s 2 ++ (putVal i 2 ++ (putVal b.length 1 ++ b)))))
/-- a frame's bytes -/
def frBytes (k d e s i : Int) (b : List UInt8) : List UInt8 := head k d e s i b ++ putVal (ckVal (head k d e s i b)) 2
def putF (k d e s i : Int) (b : List UInt8) : List UInt8 := if FOk k d e s i b.length then frBytes k d e s i b else []
theorem putF_yes {k d e s i : Int} {b : List UInt8} (h : FOk k d e s i b.length) : putF k d e s i b = frBytes k d e s i b := if_pos h
theorem putF_no {k d e s i : Int} {b : List UInt8} (h : ¬ FOk k d e s i b.length) : putF k d e s i b = [] := if_neg h
end Go.Proofs.Ytgbdmpfojiihnaa.Frm
