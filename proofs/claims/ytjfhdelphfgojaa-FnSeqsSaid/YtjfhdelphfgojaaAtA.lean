/-
  The laws' 'at' as a function of the code's bytes.
-/
import Derived.Test.YtjfhdelphfgojaaDrawN
import Derived.Test.YtjfhdelphfgojaaDrwA
namespace Go.Proofs.Ytjfhdelphfgojaa.Draw
open Go.RowKit Go.Proofs.Ytjfhdelphfgojaa.Kit
set_option linter.unusedVariables false

/-- the byte at k, or a number made of k behind the code's end -/
def atF (c : Nat → Int) (len k : Nat) : Int := if k < len then c k else (((k * 7 + len : Nat) : Int) % 256)
theorem at_is (w : World) (B : Nat) (a : Option Addr) (len cap : Nat) (c : Nat → Int) (hcode : CodeIs B w a len cap c) (k : Nat) (hk : k ≤ 1000) :
    Calls Try.prog 39 #[.slice a len cap, .int .i64 k] w fun e w' => (e = .returned (.int .i64 (atF c len k)) ∧ 0 ≤ atF c len k ∧ atF c len k < 256) ∧ w = w' := by
  have hlen := hcode.le
  unfold maxLen at hlen
  have HC := Lib.hid hcode
  clear hcode
  by_cases hlt : (k : Int) < (len : Int)
  · obtain ⟨b, off, rfl, hbB, hy0, hy1, hcy⟩ := HC.out.cell k (by omega)
    have he : atF c len k = c k := by unfold atF; rw [if_pos (by omega)]
    rw [he]
    go_enter Try.func39, Try.ntmps39
    go_wp2
    go_ret
    exact ⟨⟨rfl, hy0, hy1⟩, rfl⟩
  · have he : atF c len k = ((k : Int) * 7 + len) % 256 := by unfold atF; rw [if_neg (by omega)]; omega
    rw [he]
    go_enter Try.func39, Try.ntmps39
    go_wp2
    go_ret
    exact ⟨⟨by go_num, by omega, by omega⟩, rfl⟩
theorem atF_bd {w : World} {B : Nat} {a : Option Addr} {len cap : Nat} {c : Nat → Int} (h : CodeIs B w a len cap c) (k : Nat) : 0 ≤ atF c len k ∧ atF c len k < 256 := by
  unfold atF
  by_cases hk : k < len
  · rw [if_pos hk]
    obtain ⟨b, off, _, _, h0, h1, _⟩ := h.cell k hk
    exact ⟨h0, h1⟩
  · rw [if_neg hk]
    omega
theorem at_int (w : World) (B : Nat) (a : Option Addr) (len cap : Nat) (c : Nat → Int) (hcode : CodeIs B w a len cap c) (i : Int) (h0 : 0 ≤ i) (h1 : i ≤ 1000) (x : Int) (hx : atF c len i.toNat = x) :
    Calls Try.prog 39 #[.slice a len cap, .int .i64 i] w fun e w' => (e = .returned (.int .i64 x) ∧ 0 ≤ x ∧ x < 256) ∧ w = w' := by
  obtain ⟨k, rfl⟩ := Int.eq_ofNat_of_zero_le h0
  rw [← hx]
  exact at_is w B a len cap c hcode k (by omega)
theorem at_any (w : World) (B : Nat) (a : Option Addr) (len cap : Nat) (hcode : CodeAt B w a len cap) (i : Int) (h0 : 0 ≤ i) (h1 : i ≤ 1000) :
    Calls Try.prog 39 #[.slice a len cap, .int .i64 i] w fun e w' => (∃ z : Int, 0 ≤ z ∧ z < 256 ∧ e = .returned (.int .i64 z)) ∧ w = w' := by
  obtain ⟨k, rfl⟩ := Int.eq_ofNat_of_zero_le h0
  exact at_draw w B a len cap hcode k (by omega)
end Go.Proofs.Ytjfhdelphfgojaa.Draw
