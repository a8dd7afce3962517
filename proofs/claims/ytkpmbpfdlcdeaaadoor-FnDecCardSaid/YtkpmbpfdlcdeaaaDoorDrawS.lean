/-
  The walks of the draws, third part: a coin, a text out of a list, a text to be read.
-/
import Derived.Test.YtkpmbpfdlcdeaaaDoorDrawX
namespace Go.Proofs.YtkpmbpfdlcdeaaaDoor.Draw
open Go.RowKit Go.Proofs.YtkpmbpfdlcdeaaaDoor.Kit
set_option linter.unusedVariables false

theorem once_draw (w : World) (cb B : Nat) (a : Option Addr) (len cap : Nat) (hd : Dr B w cb 47 a len cap) (n : Int) (h1 : 1 ≤ n) (h2 : n ≤ 9223372036854775807) :
    Calls Tryd.prog 27 #[.pointer (some ⟨cb, 0, none⟩), .int .i64 n] w fun e w' => (∃ b : Bool, e = .returned (.bool b)) ∧ Went B w w' cb 47 a len cap := by
  go_enter Tryd.func27, Tryd.ntmps27
  go_wp2_with fail
  refine (below_draw _ cb B a len cap hd _ h1 h2).mono ?_
  rintro e w1 ⟨⟨x, rfl, hx0, hx1⟩, hw⟩
  go_wp2_with fail
  go_ret
  exact ⟨⟨_, rfl⟩, hw⟩

/-- a list of texts in a block of its own -/
def Strs (w : World) (g n : Nat) (Ps : ByteArray → Prop) : Prop := ∀ j, j < n → ∃ s : ByteArray, Ps s ∧ w.cell? ⟨g, j, none⟩ = some (.string s)
theorem strs_new (w : World) (cs : List Value) (T : TypeId) (Ps : ByteArray → Prop) (h : ∀ v ∈ cs, ∃ s : ByteArray, v = .string s ∧ Ps s) : Strs (w.alloc (.cells cs.toArray T)) w.heap.size cs.length Ps := by
  intro j hj
  obtain ⟨z, hv, hz⟩ := h cs[j] (List.getElem_mem hj)
  refine ⟨z, hz, ?_⟩
  have hb : (w.alloc (.cells cs.toArray T)).heap[w.heap.size]? = some (.cells cs.toArray T (0, 0)) := heap_alloc_new w _
  rw [cell_of_row _ _ j _ T (0, 0) hb]
  simp [hj, hv]

set_option maxHeartbeats 400000 in
theorem pick_draw (w : World) (cb B : Nat) (a : Option Addr) (len cap : Nat) (hd : Dr B w cb 47 a len cap) (g n : Nat) (Ps : ByteArray → Prop) (hn : Strs w g n Ps) (hg : g ≠ cb) (h1 : 1 ≤ n) (h2 : n ≤ 100) :
    Calls Tryd.prog 28 #[.pointer (some ⟨cb, 0, none⟩), .slice (some ⟨g, 0, none⟩) n n] w fun e w' => (∃ s : ByteArray, e = .returned (.string s) ∧ Ps s) ∧ Went B w w' cb 47 a len cap := by
  have HN := Lib.hid hn
  clear hn
  go_enter Tryd.func28, Tryd.ntmps28
  go_wp2_with fail
  refine (below_draw _ cb B a len cap hd _ (by omega) (by omega)).mono ?_
  rintro e w1 ⟨⟨x, rfl, hx0, hx1⟩, hw⟩
  obtain ⟨k, rfl⟩ := Int.eq_ofNat_of_zero_le hx0
  obtain ⟨z, hz, hcz⟩ := HN.out k (by omega)
  have hc1 : w1.cell? ⟨g, k, none⟩ = some (.string z) := hw.grown.cell hcz (by simpa using hg)
  clear hcz
  go_wp2_with fail
  go_ret
  exact ⟨⟨z, rfl, hz⟩, hw⟩
end Go.Proofs.YtkpmbpfdlcdeaaaDoor.Draw
