/-
  The walks of the laws' marks on ints, and of what holds two rows of ints, two links against each other.
-/
import Derived.Test.YtecfomaapomncaaLkX
namespace Go.Proofs.Ytecfomaapomncaa.Lnk
open Go.RowKit
set_option linter.unusedVariables false

set_option maxRecDepth 100000 in
set_option maxHeartbeats 400000 in
theorem markIntS_any (w : World) (B : Nat) (a : Option Addr) (len cap : Nat) (l : List Int) (q : Int) (h : IOwn B w (.slice a len cap) l) (hlen : len ≤ 2000000) (hq0 : 0 ≤ q) (hq1 : q ≤ 10000000) :
    Calls Try.prog 64 #[.slice a len cap, .int .i64 q] w fun e w' => e = .returned (.int .i64 (q + (len : Int))) ∧ IOwn B w' (.slice a len cap) (mrkI q len) ∧ w.grownBy w' (Value.slice a len cap).ownBlock := by
  have hnl := h.lit.1
  by_cases h0 : len = 0
  · subst h0
    have hl : l = [] := List.length_eq_zero_iff.1 hnl.symm
    subst hl
    have H := Lib.hid h
    clear h hnl
    go_enter Try.func64, Try.ntmps64
    go_wp2
    go_loopw [1, 5] (fun k i wr => k = .int .i64 q ∧ i = .int .i64 0 ∧ wr = w) (fun _ i _ => 0)
    case atStart => exact ⟨rfl, rfl, rfl⟩
    case round =>
      obtain ⟨rfl, rfl, rfl⟩ := hrel
      go_wp2
      go_ret
      exact ⟨by simp, H.out, World.grownBy.refl _ _⟩
  · obtain ⟨g, rfl⟩ : ∃ g, a = some ⟨g, 0, none⟩ := by
      rcases h.2 with ⟨e, h1⟩ | ⟨g, c, cur, e, _⟩
      · omega
      · simp only [Value.slice.injEq] at e
        exact ⟨g, e.1⟩
    have H := Lib.hid h
    have HL := Lib.hid hnl
    clear h hnl
    go_enter Try.func64, Try.ntmps64
    go_wp2
    go_loopw [1, 5] (fun k i wr => ∃ j : Nat, j ≤ len ∧ k = .int .i64 (q + (j : Int)) ∧ i = .int .i64 j ∧ Hid (IOwn B wr (.slice (some ⟨g, 0, none⟩) len cap) (mrkI q j ++ l.drop j)) ∧ Hid (w.grownBy wr (some g))) (fun _ i _ => len - (intOf i).toNat)
    case atStart => exact ⟨0, by omega, by go_num, rfl, Lib.hid (by simpa [mrkI] using H.out), Lib.hid (World.grownBy.refl _ _)⟩
    case round =>
      obtain ⟨j, hj, rfl, rfl, HO, HG⟩ := hrel
      by_cases hlt : (j : Int) < (len : Int)
      · have hjl : j < l.length := by have := HL.out; omega
        have hm : j < (mrkI q j ++ l.drop j).length := by rw [mrkI_mid_len q l j (by omega)]; exact hjl
        obtain ⟨c0, f0⟩ := HO.out.cellAt j hm
        obtain ⟨z0, hz0⟩ : ∃ z, z = (mrkI q j ++ l.drop j)[j] := ⟨_, rfl⟩
        rw [← hz0] at c0
        have hst := HO.out.set j hm (q + (j : Int))
        rw [mrkI_step q l j hjl] at hst
        have HS := Lib.hid hst
        clear hst hm hz0
        go_wp2_with fail
        go_roundw
        case rel => exact ⟨j + 1, by omega, by go_num, by go_num, Lib.hid HS.out.1, Lib.hid (HG.out.trans HS.out.2)⟩
        case measure => simp [intOf]; omega
      · have hjl : j = len := by omega
        subst hjl
        have HO' := Lib.hid (show IOwn B wr (.slice (some ⟨g, 0, none⟩) j cap) (mrkI q j) by
          have h1 := HO.out
          rw [List.drop_eq_nil_of_le (by have := HL.out; omega), List.append_nil] at h1
          exact h1)
        clear HO
        go_wp2
        go_ret
        exact ⟨rfl, HO'.out, HG.out⟩

set_option maxRecDepth 100000 in
set_option maxHeartbeats 400000 in
theorem heldIntS_any (w : World) (B : Nat) (a : Option Addr) (len cap : Nat) (q : Int) (h : IIs B w a len (mrkI q len)) (hlen : len ≤ 2000000) (hq0 : 0 ≤ q) (hq1 : q ≤ 10000000) :
    Calls Try.prog 67 #[.slice a len cap, .int .i64 q] w fun e w' => e = .returned (.int .i64 (q + (len : Int))) ∧ w = w' := by
  have H := Lib.hid h
  clear h
  go_enter Try.func67, Try.ntmps67
  go_wp2
  go_loop [1, 5] (fun k i => ∃ j : Nat, j ≤ len ∧ k = .int .i64 (q + (j : Int)) ∧ i = .int .i64 j) (fun _ i => len - (intOf i).toNat)
  case atStart => exact ⟨0, by omega, by go_num, rfl⟩
  case round =>
    obtain ⟨j, hj, rfl, rfl⟩ := hrel
    by_cases hlt : (j : Int) < (len : Int)
    · have hjl : j < (mrkI q len).length := by rw [mrkI_len]; omega
      obtain ⟨b, off, rfl, hb, c0⟩ := H.out.cell j hjl
      rw [mrkI_get] at c0
      go_wp2_with fail
      go_round
      case rel => exact ⟨j + 1, by omega, by go_num, by go_num⟩
      case measure => simp [intOf]; omega
    · have hjl : j = len := by omega
      subst hjl
      go_wp2
      go_ret
      exact ⟨rfl, rfl⟩

set_option maxRecDepth 100000 in
set_option maxHeartbeats 400000 in
theorem eqIntS_yes (w : World) (B : Nat) (a1 a2 : Option Addr) (len c1 c2 : Nat) (l : List Int) (h1 : IIs B w a1 len l) (h2 : IIs B w a2 len l) (hlen : len ≤ 2000000) (hB : B ≤ w.heap.size) :
    Calls Try.prog 61 #[.slice a1 len c1, .slice a2 len c2] w fun e w' => e = .returned (.bool true) ∧ Below w.heap.size w w' := by
  have H1 := Lib.hid h1
  have H2 := Lib.hid h2
  have HL := Lib.hid h1.hlen
  clear h1 h2
  go_enter Try.func61, Try.ntmps61
  go_wp2
  go_loopw [5] (fun i wr => ∃ j : Nat, j ≤ len ∧ i = .int .i64 j ∧ Hid (Below w.heap.size w wr)) (fun i _ => len - (intOf i).toNat)
  case atStart => exact ⟨0, by omega, rfl, Lib.hid (Below.refl _ _)⟩
  case round =>
    obtain ⟨j, hj, rfl, HB⟩ := hrel
    by_cases hlt : (j : Int) < (len : Int)
    · have hjl : j < l.length := by have := HL.out; omega
      obtain ⟨b1, o1, rfl, hb1, c0⟩ := (H1.out.below (HB.out.mono hB)).cell j hjl
      obtain ⟨b2, o2, rfl, hb2, d0⟩ := (H2.out.below (HB.out.mono hB)).cell j hjl
      obtain ⟨z, hz⟩ : ∃ z, z = l[j] := ⟨_, rfl⟩
      rw [← hz] at c0 d0
      clear hz
      go_wp2_with fail
      go_quiet (fail)
      go_wp2_with fail
      go_roundw
      case rel => exact ⟨j + 1, by omega, by go_num, Lib.hid (below_drewN HB.out _)⟩
      case measure => simp [intOf]; omega
    · go_wp2
      go_ret
      exact ⟨rfl, HB.out⟩

set_option maxRecDepth 100000 in
set_option maxHeartbeats 400000 in
theorem sameInts_yes (w : World) (B : Nat) (a1 a2 : Option Addr) (len c1 c2 : Nat) (l : List Int) (h1 : IIs B w a1 len l) (h2 : IIs B w a2 len l) (hlen : len ≤ 2000000) (hB : B ≤ w.heap.size) :
    Calls Try.prog 33 #[.slice a1 len c1, .slice a2 len c2] w fun e w' => e = .returned (.bool true) ∧ Below w.heap.size w w' := by
  have H1 := Lib.hid h1
  have H2 := Lib.hid h2
  have HL := Lib.hid h1.hlen
  clear h1 h2
  go_enter Try.func33, Try.ntmps33
  go_wp2
  go_loopw [5] (fun i wr => ∃ j : Nat, j ≤ len ∧ i = .int .i64 j ∧ Hid (Below w.heap.size w wr)) (fun i _ => len - (intOf i).toNat)
  case atStart => exact ⟨0, by omega, rfl, Lib.hid (Below.refl _ _)⟩
  case round =>
    obtain ⟨j, hj, rfl, HB⟩ := hrel
    by_cases hlt : (j : Int) < (len : Int)
    · have hjl : j < l.length := by have := HL.out; omega
      obtain ⟨b1, o1, rfl, hb1, c0⟩ := (H1.out.below (HB.out.mono hB)).cell j hjl
      obtain ⟨b2, o2, rfl, hb2, d0⟩ := (H2.out.below (HB.out.mono hB)).cell j hjl
      obtain ⟨z, hz⟩ : ∃ z, z = l[j] := ⟨_, rfl⟩
      rw [← hz] at c0 d0
      clear hz
      go_wp2_with fail
      go_quiet (fail)
      go_wp2_with fail
      go_roundw
      case rel => exact ⟨j + 1, by omega, by go_num, Lib.hid (below_drewN HB.out _)⟩
      case measure => simp [intOf]; omega
    · go_wp2
      go_ret
      exact ⟨rfl, HB.out⟩

set_option maxRecDepth 100000 in
set_option maxHeartbeats 400000 in
theorem sameLink_yes (w : World) (B : Nat) (a1 a2 : Option Addr) (len c1 c2 : Nat) (up : Bool) (ep sq : Int) (l : List Y) (h1 : YIs B w a1 len l) (h2 : YIs B w a2 len l) (hlen : len ≤ 2000000) (hB : B ≤ w.heap.size) :
    Calls Try.prog 31 #[.agg #[.bool up, .int .i64 ep, .int .i64 sq, .slice a1 len c1], .agg #[.bool up, .int .i64 ep, .int .i64 sq, .slice a2 len c2]] w fun e w' => e = .returned (.bool true) ∧ Below w.heap.size w w' := by
  have hb0 : Below w.heap.size w ((w.alloc (.cells #[.bool up, .int .i64 ep, .int .i64 sq, .slice a1 len c1] 42)).alloc (.cells #[.bool up, .int .i64 ep, .int .i64 sq, .slice a2 len c2] 42)) := ((Below.refl _ _).alloc (Nat.le_refl _) _).alloc (by simp) _
  have HX1 := Lib.hid ((B4.new w up ep sq (.slice a1 len c1) 42).below (bOne _ (.cells #[.bool up, .int .i64 ep, .int .i64 sq, .slice a2 len c2] 42)))
  have HX2 := Lib.hid (show B4 ((w.alloc (.cells #[.bool up, .int .i64 ep, .int .i64 sq, .slice a1 len c1] 42)).alloc (.cells #[.bool up, .int .i64 ep, .int .i64 sq, .slice a2 len c2] 42)) (w.heap.size + 1) up ep sq (.slice a2 len c2) by
    have := B4.new (w.alloc (.cells #[.bool up, .int .i64 ep, .int .i64 sq, .slice a1 len c1] 42)) up ep sq (.slice a2 len c2) 42
    simpa using this)
  have H1 := Lib.hid (h1.below (hb0.mono hB))
  have H2 := Lib.hid (h2.below (hb0.mono hB))
  have HB0 := Lib.hid hb0
  have HL := Lib.hid h1.hlen
  have hbb : (up != up) = false := by simp
  clear h1 h2 hb0
  go_enter Try.func31, Try.ntmps31
  go_wp2_with fail
  obtain ⟨W, hW⟩ : ∃ W, W = (w.alloc (.cells #[.bool up, .int .i64 ep, .int .i64 sq, .slice a1 len c1] 42)).alloc (.cells #[.bool up, .int .i64 ep, .int .i64 sq, .slice a2 len c2] 42) := ⟨_, rfl⟩
  rw [← hW] at HX1 HX2 H1 H2 HB0 ⊢
  have HBW := Lib.hid (show B ≤ W.heap.size by have := HB0.out.size; omega)
  clear hW
  go_loopw [5] (fun i wr => ∃ j : Nat, j ≤ len ∧ i = .int .i64 j ∧ Hid (Below W.heap.size W wr)) (fun i _ => len - (intOf i).toNat)
  case atStart => exact ⟨0, by omega, rfl, Lib.hid (Below.refl _ _)⟩
  case round =>
    obtain ⟨j, hj, rfl, HB⟩ := hrel
    obtain ⟨p0, p1, p2, p3, pl⟩ := HX1.out.below HB.out
    obtain ⟨q0, q1, q2, q3, ql⟩ := HX2.out.below HB.out
    by_cases hlt : (j : Int) < (len : Int)
    · have hjl : j < l.length := by have := HL.out; omega
      obtain ⟨b1, o1, rfl, hb1, c0, c1, c2⟩ := (H1.out.below (HB.out.mono HBW.out)).cell j hjl
      obtain ⟨b2, o2, rfl, hb2, d0, d1, d2⟩ := (H2.out.below (HB.out.mono HBW.out)).cell j hjl
      obtain ⟨z, hz⟩ : ∃ z, z = l[j].1 := ⟨_, rfl⟩
      obtain ⟨z', hz'⟩ : ∃ z, z = l[j].2.1 := ⟨_, rfl⟩
      obtain ⟨z2, hz2⟩ : ∃ z, z = l[j].2.2 := ⟨_, rfl⟩
      rw [← hz] at c0 d0
      rw [← hz'] at c1 d1
      rw [← hz2] at c2 d2
      clear hz hz' hz2
      go_wp2_with fail
      go_quiet (fail)
      go_wp2_with fail
      go_roundw
      case rel => exact ⟨j + 1, by omega, by go_num, Lib.hid (below_drewN HB.out _)⟩
      case measure => simp [intOf]; omega
    · go_wp2
      go_ret
      exact ⟨rfl, HB0.out.trans (HB.out.mono HB0.out.size)⟩
end Go.Proofs.Ytecfomaapomncaa.Lnk
