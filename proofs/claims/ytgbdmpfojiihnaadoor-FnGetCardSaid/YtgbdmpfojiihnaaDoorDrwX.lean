/-
  The walks of the draws, told as functions, second part: a new cursor, a text out of a list, a text put together.
-/
import Derived.Test.YtgbdmpfojiihnaaDoorDrwW
namespace Go.Proofs.YtgbdmpfojiihnaaDoor.Drw
open Go.RowKit Go.Proofs.YtgbdmpfojiihnaaDoor.Kit
set_option linter.unusedVariables false

set_option maxHeartbeats 400000 in
theorem new_x (w : World) (B : Nat) (a : Option Addr) (len cap : Nat) (c : Nat → Int) (hcode : CodeIs B w a len cap c) (hB : B ≤ w.heap.size) :
    Calls Tryd.prog 18 #[.slice a len cap] w fun e w' => e = .returned (.pointer (some ⟨w.heap.size, 0, none⟩)) ∧ Drw B w' w.heap.size 59 a len cap c (newF c len) ∧ Below w.heap.size w w' := by
  have hlen := hcode.le
  unfold maxLen at hlen
  have HC := Lib.hid hcode
  clear hcode
  go_enter Tryd.func18, Tryd.ntmps18
  go_wp2
  go_loop [3, 4] (fun m i => ∃ (k : Nat) (x : Int), k ≤ len ∧ k ≤ 4000 ∧ i = .int .i64 k ∧ m = .int .i64 x ∧ Hid (x = hashF c len k)) (fun _ i => len - (intOf i).toNat)
  case atStart => exact ⟨0, _, by omega, by omega, rfl, rfl, Lib.hid rfl⟩
  case round =>
    obtain ⟨k, x, hk, hk4, rfl, rfl, HX⟩ := hrel
    have fin : ∀ (hf : k = min len 4000), Drw B (w.alloc (.cells #[.slice a len cap, .int .i64 0, .int .i64 x] 59)) w.heap.size 59 a len cap c (newF c len) := fun hf =>
      ⟨Nat.zero_le _, by rw [HX.out, hf]; exact heap_alloc_new w _, HC.out.below ((Below.refl _ _).alloc hB _), hB⟩
    have FIN := Lib.hid fin
    clear fin
    by_cases hlt : (k : Int) < (len : Int)
    · by_cases h4 : (k : Int) < 4000
      · obtain ⟨b, off, hae, hbB, hya, hyb, hcy⟩ := HC.out.cell k (by omega)
        subst hae
        go_wp2
        go_round
        case rel => exact ⟨k + 1, _, by omega, by omega, by go_num, rfl, Lib.hid (by rw [HX.out]; rfl)⟩
        case measure => simp [intOf]; omega
      · go_wp2
        go_ret
        exact ⟨rfl, FIN.out (by omega), (Below.refl _ _).alloc (Nat.le_refl _) _⟩
    · go_wp2
      go_ret
      exact ⟨rfl, FIN.out (by omega), (Below.refl _ _).alloc (Nat.le_refl _) _⟩

set_option maxHeartbeats 400000 in
theorem pick_x (w : World) (cb B : Nat) (a : Option Addr) (len cap : Nat) (c : Nat → Int) (s : Nat × Int) (hd : Drw B w cb 59 a len cap c s) (g n : Nat) (L : List ByteArray) (hL : StrsIs w g L) (hn : n = L.length) (hg : g ≠ cb) (h1 : 1 ≤ n) (h2 : n ≤ 100) :
    Calls Tryd.prog 48 #[.pointer (some ⟨cb, 0, none⟩), .slice (some ⟨g, 0, none⟩) n n] w fun e w' => e = .returned (.string (pickF L c len s).1) ∧ Wnt B w w' cb 59 a len cap c (pickF L c len s).2 := by
  have hbd := belowF_bd c len n s (by omega)
  have hb := below_x w cb B a len cap c s hd n (by omega) (by omega)
  have hp : (pickF L c len s) = (L.getD (belowF c len n s).1.toNat ByteArray.empty, (belowF c len n s).2) := by rw [hn]; rfl
  obtain ⟨x, hx⟩ : ∃ x, x = (belowF c len n s).1 := ⟨_, rfl⟩
  rw [← hx] at hb hbd hp
  obtain ⟨hx0, hx1⟩ := hbd
  obtain ⟨k, rfl⟩ := Int.eq_ofNat_of_zero_le hx0
  have hk : k < L.length := by omega
  have hcz := hL k hk
  have e : L.getD ((k : Int)).toNat ByteArray.empty = L[k] := by
    rw [show ((k : Int)).toNat = k by omega, List.getD_eq_getElem?_getD, List.getElem?_eq_getElem hk]; rfl
  rw [e] at hp
  obtain ⟨z, hz⟩ : ∃ z, z = L[k] := ⟨_, rfl⟩
  rw [← hz] at hcz hp
  have HP := Lib.hid hp
  have HB := Lib.hid hb
  clear hp hb hx hL hn e hz
  go_enter Tryd.func48, Tryd.ntmps48
  go_wp2_with fail
  refine HB.out.mono ?_
  rintro e w1 ⟨rfl, hw⟩
  have hc1 : w1.cell? ⟨g, k, none⟩ = some (.string z) := hw.grown.cell hcz (by simpa using hg)
  clear hcz
  go_wp2_with fail
  go_ret
  rw [HP.out]
  exact ⟨rfl, hw⟩

def linesL : List ByteArray := [⟨#[97]⟩, ⟨#[10]⟩, ⟨#[98, 99]⟩, ⟨#[]⟩, ⟨#[10, 10]⟩]
theorem linesL_size : ∀ x ∈ linesL, x.size ≤ 2 := by
  intro x hx
  simp only [linesL, List.mem_cons, List.mem_nil_iff, or_false] at hx
  rcases hx with rfl | rfl | rfl | rfl | rfl <;> decide
def wordsL : List ByteArray := [⟨#[97]⟩, ⟨#[32]⟩, ⟨#[98, 99]⟩, ⟨#[9]⟩, ⟨#[]⟩, ⟨#[10]⟩]
theorem wordsL_size : ∀ x ∈ wordsL, x.size ≤ 2 := by
  intro x hx
  simp only [wordsL, List.mem_cons, List.mem_nil_iff, or_false] at hx
  rcases hx with rfl | rfl | rfl | rfl | rfl | rfl <;> decide
end Go.Proofs.YtgbdmpfojiihnaaDoor.Drw
