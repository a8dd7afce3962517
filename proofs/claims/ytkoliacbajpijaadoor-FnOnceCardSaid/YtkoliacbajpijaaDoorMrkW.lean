/-
  The walks of the exact laws' marks on timers.
-/
import Derived.Test.YtkoliacbajpijaaDoorMrkA
namespace Go.Proofs.YtkoliacbajpijaaDoor.Whl
open Go.RowKit Go.Maps
set_option linter.unusedVariables false

set_option maxRecDepth 100000 in
set_option maxHeartbeats 400000 in
theorem markTimerS_any (w : World) (B : Nat) (a : Option Addr) (len cap : Nat) (l : List T) (h : TOwn B w 28 (.slice a len cap) l) (hlen : len ≤ 2000000) :
    Calls Tryd.prog 56 #[.slice a len cap, .int .i64 1] w fun e w' => e = .returned (.int .i64 (1 + 2 * (len : Int))) ∧ TOwn B w' 28 (.slice a len cap) (mrkT 1 len) ∧ w.grownBy w' (Value.slice a len cap).ownBlock := by
  have hnl := h.is.1
  by_cases h0 : len = 0
  · subst h0
    have hl : l = [] := List.length_eq_zero_iff.1 hnl.symm
    subst hl
    have H := Lib.hid h
    clear h hnl
    go_enter Tryd.func56, Tryd.ntmps56
    go_wp2
    go_loopw [1, 5] (fun k i wr => k = .int .i64 1 ∧ i = .int .i64 0 ∧ wr = w) (fun _ i _ => 0)
    case atStart => exact ⟨rfl, rfl, rfl⟩
    case round =>
      obtain ⟨rfl, rfl, rfl⟩ := hrel
      go_wp2
      go_ret
      exact ⟨rfl, H.out, World.grownBy.refl _ _⟩
  · obtain ⟨g, rfl⟩ : ∃ g, a = some ⟨g, 0, none⟩ := by
      rcases h.2 with ⟨e, h1⟩ | ⟨g, c, cur, e, _⟩
      · omega
      · simp only [Value.slice.injEq] at e
        exact ⟨g, e.1⟩
    have H := Lib.hid h
    have HL := Lib.hid hnl
    clear h hnl
    go_enter Tryd.func56, Tryd.ntmps56
    go_wp2
    go_loopw [1, 5] (fun k i wr => ∃ j : Nat, j ≤ len ∧ k = .int .i64 (1 + 2 * (j : Int)) ∧ i = .int .i64 j ∧ Hid (TOwn B wr 28 (.slice (some ⟨g, 0, none⟩) len cap) (mrkT 1 j ++ l.drop j)) ∧ Hid (w.grownBy wr (some g))) (fun _ i _ => len - (intOf i).toNat)
    case atStart => exact ⟨0, by omega, rfl, rfl, Lib.hid (by simpa [mrkT] using H.out), Lib.hid (World.grownBy.refl _ _)⟩
    case round =>
      obtain ⟨j, hj, rfl, rfl, HO, HG⟩ := hrel
      by_cases hlt : (j : Int) < (len : Int)
      · have hjl : j < l.length := by have := HL.out; omega
        have hm : j < (mrkT 1 j ++ l.drop j).length := by rw [mrk_mid_len 1 l j (by omega)]; exact hjl
        obtain ⟨c0, c1, f0, f1⟩ := HO.out.cellAt j hm
        obtain ⟨z0, hz0⟩ : ∃ z, z = (mrkT 1 j ++ l.drop j)[j].1 := ⟨_, rfl⟩
        obtain ⟨z1, hz1⟩ : ∃ z, z = (mrkT 1 j ++ l.drop j)[j].2 := ⟨_, rfl⟩
        rw [← hz0] at c0
        rw [← hz1] at c1
        have hst := HO.out.set j hm (1 + 2 * (j : Int)) (1 + 2 * (j : Int) + 1)
        rw [mrkT_step 1 l j hjl] at hst
        have HS := Lib.hid hst
        clear hst hm hz0 hz1
        go_wp2_with fail
        go_roundw
        case rel => exact ⟨j + 1, by omega, by go_num, by go_num, Lib.hid HS.out.1, Lib.hid (HG.out.trans HS.out.2)⟩
        case measure => simp [intOf]; omega
      · have hjl : j = len := by omega
        subst hjl
        have HO' := Lib.hid (show TOwn B wr 28 (.slice (some ⟨g, 0, none⟩) j cap) (mrkT 1 j) by
          have h1 := HO.out
          rw [List.drop_eq_nil_of_le (by have := HL.out; omega), List.append_nil] at h1
          exact h1)
        clear HO
        go_wp2
        go_ret
        exact ⟨rfl, HO'.out, HG.out⟩

set_option maxRecDepth 100000 in
set_option maxHeartbeats 400000 in
theorem heldTimerS_any (w : World) (B : Nat) (a : Option Addr) (len cap : Nat) (h : TIs B w a len (mrkT 1 len)) (hlen : len ≤ 2000000) :
    Calls Tryd.prog 57 #[.slice a len cap, .int .i64 1] w fun e w' => e = .returned (.int .i64 (1 + 2 * (len : Int))) ∧ w = w' := by
  have H := Lib.hid h
  clear h
  go_enter Tryd.func57, Tryd.ntmps57
  go_wp2
  go_loop [1, 5] (fun k i => ∃ j : Nat, j ≤ len ∧ k = .int .i64 (1 + 2 * (j : Int)) ∧ i = .int .i64 j) (fun _ i => len - (intOf i).toNat)
  case atStart => exact ⟨0, by omega, rfl, rfl⟩
  case round =>
    obtain ⟨j, hj, rfl, rfl⟩ := hrel
    by_cases hlt : (j : Int) < (len : Int)
    · have hjl : j < (mrkT 1 len).length := by rw [mrkT_len]; omega
      obtain ⟨b, off, rfl, hb, c0, c1⟩ := H.out.cell j hjl
      rw [mrkT_get] at c0 c1
      simp only at c0 c1
      go_wp2_with fail
      go_round
      case rel => exact ⟨j + 1, by omega, by go_num, by go_num⟩
      case measure => simp [intOf]; omega
    · have hjl : j = len := by omega
      subst hjl
      go_wp2
      go_ret
      exact ⟨rfl, rfl⟩

theorem markWheel_any (w : World) (B : Nat) (a : Option Addr) (len cap : Nat) (now : Int) (l : List T) (h : TOwn B w 28 (.slice a len cap) l) (hlen : len ≤ 2000000) (hB : B ≤ w.heap.size) :
    Calls Tryd.prog 33 #[.agg #[.int .i64 now, .slice a len cap], .int .i64 1] w fun e w' => e = .returned (.int .i64 (1 + 2 * (len : Int))) ∧ TOwn B w' 28 (.slice a len cap) (mrkT 1 len) ∧ w.grownBy w' (Value.slice a len cap).ownBlock := by
  have HB := Lib.hid (bOne w (.cells #[.int .i64 now, .slice a len cap] 26))
  have HO := Lib.hid (h.below HB.out)
  have HG := Lib.hid (World.grownBy_alloc w (.cells #[.int .i64 now, .slice a len cap] 26) (Value.slice a len cap).ownBlock)
  clear h
  go_enter Tryd.func33, Tryd.ntmps33
  go_wp2_with fail
  refine (markTimerS_any _ B a len cap l HO.out hlen).mono ?_
  rintro e w1 ⟨rfl, ho1, hg1⟩
  have HO1 := Lib.hid ho1
  have HG1 := Lib.hid (HG.out.trans hg1)
  clear ho1 hg1
  go_wp2_with fail
  go_ret
  exact ⟨rfl, HO1.out, HG1.out⟩

theorem heldWheel_any (w : World) (B : Nat) (a : Option Addr) (len cap : Nat) (now : Int) (h : TIs B w a len (mrkT 1 len)) (hB : B ≤ w.heap.size) (hlen : len ≤ 2000000) :
    Calls Tryd.prog 34 #[.agg #[.int .i64 now, .slice a len cap], .int .i64 1] w fun e w' => e = .returned (.int .i64 (1 + 2 * (len : Int))) ∧ Below w.heap.size w w' := by
  have HB := Lib.hid (bOne w (.cells #[.int .i64 now, .slice a len cap] 26))
  have HT := Lib.hid (h.below (HB.out.mono hB))
  clear h
  go_enter Tryd.func34, Tryd.ntmps34
  go_wp2_with fail
  refine (heldTimerS_any _ B a len cap HT.out hlen).mono ?_
  rintro e w1 ⟨rfl, rfl⟩
  go_wp2_with fail
  go_ret
  exact ⟨rfl, HB.out⟩
end Go.Proofs.YtkoliacbajpijaaDoor.Whl
