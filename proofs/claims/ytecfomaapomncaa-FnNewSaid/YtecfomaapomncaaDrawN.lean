/-
  The walks of the draws, second part: a new cursor, a number out of a list, a coin (for laws that draw no text).
-/
import Derived.Test.YtecfomaapomncaaDrawW
namespace Go.Proofs.Ytecfomaapomncaa.Draw
open Go.RowKit Go.Proofs.Ytecfomaapomncaa.Kit
set_option linter.unusedVariables false

theorem new_dr (w : World) (B : Nat) (a : Option Addr) (len cap : Nat) (x : Int) (hcode : CodeAt B w a len cap) (hB : B ≤ w.heap.size) :
    Dr B (w.alloc (.cells #[.slice a len cap, .int .i64 0, .int .i64 x] 91)) w.heap.size 91 a len cap :=
  ⟨⟨0, x, by omega, by omega, heap_alloc_new w _⟩, hcode.below ((Below.refl _ _).alloc hB _), hB⟩

set_option maxHeartbeats 400000 in
theorem new_draw (w : World) (B : Nat) (a : Option Addr) (len cap : Nat) (hcode : CodeAt B w a len cap) (hB : B ≤ w.heap.size) :
    Calls Try.prog 29 #[.slice a len cap] w fun e w' => e = .returned (.pointer (some ⟨w.heap.size, 0, none⟩)) ∧ Dr B w' w.heap.size 91 a len cap ∧ Below w.heap.size w w' ∧ w'.heap.size = w.heap.size + 1 := by
  have hlen := hcode.le
  unfold maxLen at hlen
  have HC := Lib.hid hcode
  clear hcode
  go_enter Try.func29, Try.ntmps29
  go_wp2
  go_loop [3, 4] (fun m i => ∃ (k : Nat) (x : Int), k ≤ len ∧ i = .int .i64 k ∧ m = .int .i64 x) (fun _ i => len - (intOf i).toNat)
  case atStart => exact ⟨0, _, by omega, rfl, rfl⟩
  case round =>
    obtain ⟨k, x, hk, rfl, rfl⟩ := hrel
    by_cases hlt : (k : Int) < (len : Int)
    · by_cases h4 : (k : Int) < 4000
      · obtain ⟨b, off, hae, hbB, y, hya, hyb, hcy⟩ := HC.out.cell k (by omega)
        subst hae
        go_wp2
        go_round
        case rel => exact ⟨k + 1, _, by omega, by go_num, rfl⟩
        case measure => simp [intOf]; omega
      · go_wp2
        go_ret
        exact ⟨rfl, new_dr w B a len cap x HC.out hB, (Below.refl _ _).alloc (Nat.le_refl _) _, by simp⟩
    · go_wp2
      go_ret
      exact ⟨rfl, new_dr w B a len cap x HC.out hB, (Below.refl _ _).alloc (Nat.le_refl _) _, by simp⟩

/-- a list of numbers in a block of its own -/
def Nums (w : World) (g n : Nat) (Pz : Int → Prop) : Prop := ∀ j, j < n → ∃ z : Int, Pz z ∧ w.cell? ⟨g, j, none⟩ = some (.int .i64 z)

set_option maxHeartbeats 400000 in
theorem pickInt_draw (w : World) (cb B : Nat) (a : Option Addr) (len cap : Nat) (hd : Dr B w cb 91 a len cap) (g n : Nat) (Pz : Int → Prop) (hn : Nums w g n Pz) (hg : g ≠ cb) (hg2 : g < w.heap.size) (h1 : 1 ≤ n) (h2 : n ≤ 100) :
    Calls Try.prog 70 #[.pointer (some ⟨cb, 0, none⟩), .slice (some ⟨g, 0, none⟩) n n] w fun e w' => (∃ z : Int, e = .returned (.int .i64 z) ∧ Pz z) ∧ Went B w w' cb 91 a len cap := by
  have HN := Lib.hid hn
  clear hn
  go_enter Try.func70, Try.ntmps70
  go_wp2_with fail
  refine (below_draw _ cb B a len cap hd _ (by omega) (by omega)).mono ?_
  rintro e w1 ⟨⟨x, rfl, hx0, hx1⟩, hw⟩
  obtain ⟨k, rfl⟩ := Int.eq_ofNat_of_zero_le hx0
  obtain ⟨z, hz, hcz⟩ := HN.out k (by omega)
  have hc1 : w1.cell? ⟨g, k, none⟩ = some (.int .i64 z) := hw.grown.cell hcz (by simpa using hg)
  clear hcz
  go_wp2_with fail
  go_ret
  exact ⟨⟨z, rfl, hz⟩, hw⟩

/-- a list just built -/
theorem nums_new (w : World) (cs : List Value) (T : TypeId) (Pz : Int → Prop) (h : ∀ v ∈ cs, ∃ z : Int, v = .int .i64 z ∧ Pz z) : Nums (w.alloc (.cells cs.toArray T)) w.heap.size cs.length Pz := by
  intro j hj
  obtain ⟨z, hv, hz⟩ := h cs[j] (List.getElem_mem hj)
  refine ⟨z, hz, ?_⟩
  have hb : (w.alloc (.cells cs.toArray T)).heap[w.heap.size]? = some (.cells cs.toArray T (0, 0)) := heap_alloc_new w _
  rw [cell_of_row _ _ j _ T (0, 0) hb]
  simp [hj, hv]

def isI64 (z : Int) : Prop := -9223372036854775808 ≤ z ∧ z ≤ 9223372036854775807

theorem i64_lit (z : Int) (h : isI64 z) : (Lit.int .i64 z).wf = true := by
  unfold isI64 at h
  simp [Lit.wf, IntKind.min, IntKind.max, IntKind.signed, IntKind.bits]
  omega
end Go.Proofs.Ytecfomaapomncaa.Draw
