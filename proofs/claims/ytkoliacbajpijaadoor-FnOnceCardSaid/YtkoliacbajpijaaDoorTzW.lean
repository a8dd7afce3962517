/-
  The walk of math/bits.TrailingZeros64 at a number that is not nought.
-/
import Derived.Test.YtkoliacbajpijaaDoorProg
import Derived.WalkKit
import Derived.WalkSpells
import Derived.WalkLawsBesides
import Derived.Lib.Hide
import Derived.Shelf.Spec.TrailingZeros
namespace Go.Proofs.YtkoliacbajpijaaDoor.Whl
open Go.RowKit
set_option linter.unusedVariables false

/-- The library's table of the lowest bits, as it is laid. -/
def TabD (w : World) : Prop := ∀ i, i < 64 → w.cell? ⟨0, i, none⟩ = some (.int .u8 ((Lib.deBruijn64tab.getD i 0 : Nat) : Int))
theorem TabD.lt {w : World} (h : TabD w) : 0 < w.heap.size := World.block_lt_of_cell? w _ (h 0 (by omega))
theorem TabD.below {B : Nat} {w w' : World} (h : TabD w) (hb : Below B w w') (hB : 0 < B) : TabD w' := fun i hi =>
  (hb.cell (p := ⟨0, i, none⟩) hB).trans (h i hi)

theorem tz_any (x : Nat) (hx : x < 18446744073709551616) (h0 : x ≠ 0) (w : World) (hT : TabD w) :
    Calls Tryd.prog 71 #[.int .u64 x] w fun e w' => e = .returned (.int .i64 ((Lib.ctz 64 x : Nat) : Int)) ∧ w = w' := by
  obtain ⟨hlow, hk⟩ := Lib.lowest_bit 64 x h0 hx
  obtain ⟨hi, htab⟩ := Lib.deBruijn64_at _ hk
  have hcell := hT _ hi
  rw [htab] at hcell
  have hkey := tz64_key x _ hx h0 hlow
  obtain ⟨i, hie⟩ : ∃ i, i = 2 ^ Lib.ctz 64 x * 285870213051353865 % 18446744073709551616 / 288230376151711744 := ⟨_, rfl⟩
  rw [← hie] at hi hcell hkey
  obtain ⟨k, hke⟩ : ∃ k, k = Lib.ctz 64 x := ⟨_, rfl⟩
  rw [← hke] at hcell ⊢
  have hz : ((x : Int) == 0) = false := by simp; omega
  have hi' : (i : Int) < 64 := by omega
  have hk' : k < 64 := by omega
  clear hie hke htab hlow hk hT
  go_enter Tryd.func71, Tryd.ntmps71
  go_wp2
  go_ret
  exact ⟨rfl, rfl⟩
end Go.Proofs.YtkoliacbajpijaaDoor.Whl
