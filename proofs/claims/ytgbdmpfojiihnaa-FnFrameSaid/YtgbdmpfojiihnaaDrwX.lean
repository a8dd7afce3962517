/-
  The walks of the draws, told as functions, second part: a new cursor, a text out of a list, a text put together.
-/
import Derived.Test.YtgbdmpfojiihnaaDrwW
namespace Go.Proofs.Ytgbdmpfojiihnaa.Drw
open Go.RowKit Go.Proofs.Ytgbdmpfojiihnaa.Kit
set_option linter.unusedVariables false

set_option maxHeartbeats 400000 in
theorem new_x (w : World) (B : Nat) (a : Option Addr) (len cap : Nat) (c : Nat → Int) (hcode : CodeIs B w a len cap c) (hB : B ≤ w.heap.size) :
    Calls Try.prog 23 #[.slice a len cap] w fun e w' => e = .returned (.pointer (some ⟨w.heap.size, 0, none⟩)) ∧ Drw B w' w.heap.size 55 a len cap c (newF c len) ∧ Below w.heap.size w w' := by
  have hlen := hcode.le
  unfold maxLen at hlen
  have HC := Lib.hid hcode
  clear hcode
  go_enter Try.func23, Try.ntmps23
  go_wp2
  go_loop [3, 4] (fun m i => ∃ (k : Nat) (x : Int), k ≤ len ∧ k ≤ 4000 ∧ i = .int .i64 k ∧ m = .int .i64 x ∧ Hid (x = hashF c len k)) (fun _ i => len - (intOf i).toNat)
  case atStart => exact ⟨0, _, by omega, by omega, rfl, rfl, Lib.hid rfl⟩
  case round =>
    obtain ⟨k, x, hk, hk4, rfl, rfl, HX⟩ := hrel
    have fin : ∀ (hf : k = min len 4000), Drw B (w.alloc (.cells #[.slice a len cap, .int .i64 0, .int .i64 x] 55)) w.heap.size 55 a len cap c (newF c len) := fun hf =>
      ⟨Nat.zero_le _, by rw [HX.out, hf]; exact heap_alloc_new w _, HC.out.below ((Below.refl _ _).alloc hB _), hB⟩
    have FIN := Lib.hid fin
    clear fin
    by_cases hlt : (k : Int) < (len : Int)
    · by_cases h4 : (k : Int) < 4000
      · obtain ⟨b, off, hae, hbB, hya, hyb, hcy⟩ := HC.out.cell k (by omega)
        subst hae
        go_wp2
        go_round
        case rel => exact ⟨k + 1, _, by omega, by omega, by go_num, rfl, Lib.hid (by rw [HX.out]; rfl)⟩
        case measure => simp [intOf]; omega
      · go_wp2
        go_ret
        exact ⟨rfl, FIN.out (by omega), (Below.refl _ _).alloc (Nat.le_refl _) _⟩
    · go_wp2
      go_ret
      exact ⟨rfl, FIN.out (by omega), (Below.refl _ _).alloc (Nat.le_refl _) _⟩

def linesL : List ByteArray := [⟨#[97]⟩, ⟨#[10]⟩, ⟨#[98, 99]⟩, ⟨#[]⟩, ⟨#[10, 10]⟩]
theorem linesL_size : ∀ x ∈ linesL, x.size ≤ 2 := by
  intro x hx
  simp only [linesL, List.mem_cons, List.mem_nil_iff, or_false] at hx
  rcases hx with rfl | rfl | rfl | rfl | rfl <;> decide
def wordsL : List ByteArray := [⟨#[97]⟩, ⟨#[32]⟩, ⟨#[98, 99]⟩, ⟨#[9]⟩, ⟨#[]⟩, ⟨#[10]⟩]
theorem wordsL_size : ∀ x ∈ wordsL, x.size ≤ 2 := by
  intro x hx
  simp only [wordsL, List.mem_cons, List.mem_nil_iff, or_false] at hx
  rcases hx with rfl | rfl | rfl | rfl | rfl | rfl <;> decide
end Go.Proofs.Ytgbdmpfojiihnaa.Drw
