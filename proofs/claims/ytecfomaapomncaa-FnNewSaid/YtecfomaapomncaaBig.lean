/-
  The walk of the laws' guard: is the code longer than 2^20 bytes?
-/
import Derived.Test.YtecfomaapomncaaProg
import Derived.Test.YtecfomaapomncaaDrawA
import Derived.WalkLawsBesides
namespace Go.Proofs.Ytecfomaapomncaa.Draw
open Go.RowKit Go.Proofs.Ytecfomaapomncaa.Kit
set_option linter.unusedVariables false

theorem big_yes (w : World) (a : Option Addr) (len cap : Nat) (hl : len ≤ maxLen) (h : (1048576 : Int) < (len : Int)) :
    Calls Try.prog 9 #[.slice a len cap] w fun e w' => e = .returned (.bool true) ∧ w = w' := by
  unfold maxLen at hl
  have hd : decide ((1048576 : Int) < (len : Int)) = true := by simp; omega
  go_enter Try.func9, Try.ntmps9
  go_wp2
  go_ret
  exact ⟨rfl, rfl⟩
theorem big_no (w : World) (a : Option Addr) (len cap : Nat) (hl : len ≤ maxLen) (h : (len : Int) ≤ 1048576) :
    Calls Try.prog 9 #[.slice a len cap] w fun e w' => e = .returned (.bool false) ∧ w = w' := by
  unfold maxLen at hl
  have hd : decide ((1048576 : Int) < (len : Int)) = false := by simp; omega
  go_enter Try.func9, Try.ntmps9
  go_wp2
  go_ret
  exact ⟨rfl, rfl⟩
end Go.Proofs.Ytecfomaapomncaa.Draw
