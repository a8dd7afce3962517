/-
  The walks of Level and Slot, of the program and of the specification.
-/
import Derived.Test.YtkoliacbajpijaaDoorProg
import Derived.WalkKit
import Derived.WalkSpells
import Derived.WalkLawsBesides
import Derived.Lib.Hide
import Derived.Deep.QuietTactic
import Derived.BigQuiet
import Derived.Below
import Derived.IntWalk
import Derived.Test.YtkoliacbajpijaaDoorWhlA
namespace Go.Proofs.YtkoliacbajpijaaDoor.Whl
open Go.RowKit
set_option linter.unusedVariables false

theorem i64_bounds {n : Int} (h : (Lit.int .i64 n).wf = true) : -9223372036854775808 ≤ n ∧ n ≤ 9223372036854775807 := by
  simp [Lit.wf, IntKind.min, IntKind.max, IntKind.signed, IntKind.bits] at h
  omega
def levI (a b : Int) : Int := if a < 0 ∨ b < 0 then -1 else (lev a b : Int)
theorem levI_bad {a b : Int} (h : a < 0 ∨ b < 0) : levI a b = -1 := if_pos h
theorem levI_ok {a b : Int} (h0 : 0 ≤ a) (h1 : 0 ≤ b) : levI a b = (lev a b : Int) := if_neg (by omega)

theorem lev_at0 {a b : Int} (h : a / 64 = b / 64) (_ : 0 ≤ lev a b) : lev a b = 0 := lev_is0 h
theorem lev_past0 {a b : Int} (h : ¬ a / 64 = b / 64) (_ : 0 ≤ lev a b) : 1 ≤ lev a b := by
  rcases Nat.eq_zero_or_pos (lev a b) with e | e
  · exact absurd (lev_eq0 e) h
  · exact e
theorem lev_at1 {a b : Int} (h : a / 4096 = b / 4096) (h1 : 1 ≤ lev a b) : lev a b = 1 := by
  by_cases e : a / 64 = b / 64
  · rw [lev_is0 e] at h1; omega
  · exact lev_is1 e h
theorem lev_past1 {a b : Int} (h : ¬ a / 4096 = b / 4096) (h1 : 1 ≤ lev a b) : 2 ≤ lev a b := by
  have : lev a b ≠ 1 := fun e => h (lev_eq1 e).2
  omega
theorem lev_at2 {a b : Int} (h : a / 262144 = b / 262144) (h1 : 2 ≤ lev a b) : lev a b = 2 := by
  by_cases e : a / 4096 = b / 4096
  · by_cases e' : a / 64 = b / 64
    · rw [lev_is0 e'] at h1; omega
    · rw [lev_is1 e' e] at h1; omega
  · exact lev_is2 e h
theorem lev_past2 {a b : Int} (h : ¬ a / 262144 = b / 262144) (h1 : 2 ≤ lev a b) : 3 ≤ lev a b := by
  have : lev a b ≠ 2 := fun e => h (lev_eq2 e).2
  omega
theorem lev_at3 {a b : Int} (h : a / 16777216 = b / 16777216) (h1 : 3 ≤ lev a b) : lev a b = 3 := by
  by_cases e : a / 262144 = b / 262144
  · have := lev_le a b
    have h3 : lev a b ≤ 2 := by
      unfold lev; rw [if_pos e]; (repeat' split) <;> omega
    omega
  · exact lev_is3 e h
theorem lev_past3 {a b : Int} (h : ¬ a / 16777216 = b / 16777216) (h1 : 3 ≤ lev a b) : 4 ≤ lev a b := by
  have : lev a b ≠ 3 := fun e => h (lev_eq3 e).2
  omega
theorem lev_at4 {a b : Int} (h : a / 1073741824 = b / 1073741824) (h1 : 4 ≤ lev a b) : lev a b = 4 := by
  have h3 : lev a b ≤ 4 := by
    unfold lev; rw [if_pos h]; (repeat' split) <;> omega
  omega
theorem lev_past4 {a b : Int} (h : ¬ a / 1073741824 = b / 1073741824) (h1 : 4 ≤ lev a b) : 5 ≤ lev a b := by
  have : lev a b ≠ 4 := fun e => h (lev_eq4 e).2
  omega

set_option maxHeartbeats 400000 in
theorem level_ok (a b : Int) (w : World) (h0 : 0 ≤ a) (h1 : 0 ≤ b) (ha : a ≤ 9223372036854775807) (hb : b ≤ 9223372036854775807) :
    Calls Tryd.prog 60 #[.int .i64 a, .int .i64 b] w fun e w' => e = .returned (.int .i64 (lev a b : Int)) ∧ ∃ n, w' = w.drewN n := by
  go_enter Tryd.func60, Tryd.ntmps60
  go_wp2
  go_loopw [13] (fun i wr => ∃ k : Nat, k ≤ 5 ∧ Hid (k ≤ lev a b) ∧ i = .int .i64 k ∧ Hid (∃ n, wr = w.drewN n)) (fun i _ => 5 - (intOf i).toNat)
  case atStart => exact ⟨0, by omega, Lib.hid (by omega), rfl, Lib.hid ⟨0, rfl⟩⟩
  case round =>
    obtain ⟨k, hk, HL, rfl, HN⟩ := hrel
    have h6 : k = 0 ∨ k = 1 ∨ k = 2 ∨ k = 3 ∨ k = 4 ∨ k = 5 := by omega
    clear hk
    rcases h6 with rfl | rfl | rfl | rfl | rfl | rfl
    · by_cases he : a / 64 = b / 64
      · have hl : lev a b = 0 := by have := HL.out; exact lev_at0 he this
        have HE := Lib.hid hl
        have hb : (a / 64 == b / 64) = true := by simpa using he
        clear he hl HL
        go_wp2
        go_quiet (fail)
        go_wp2
        go_ret
        obtain ⟨n, rfl⟩ := HN.out
        exact ⟨by rw [HE.out]; rfl, _, World.drewN_drewN _ _ _⟩
      · have hl : 1 ≤ lev a b := by have := HL.out; exact lev_past0 he this
        have HE := Lib.hid hl
        have hb : (a / 64 == b / 64) = false := by simpa using he
        clear he hl HL
        go_wp2
        go_quiet (fail)
        go_wp2
        go_roundw
        case rel =>
          obtain ⟨n, rfl⟩ := HN.out
          exact ⟨1, by omega, HE, by go_num, Lib.hid ⟨_, World.drewN_drewN _ _ _⟩⟩
        case measure => simp [intOf]
    · by_cases he : a / 4096 = b / 4096
      · have hl : lev a b = 1 := by have := HL.out; exact lev_at1 he this
        have HE := Lib.hid hl
        have hb : (a / 4096 == b / 4096) = true := by simpa using he
        clear he hl HL
        go_wp2
        go_quiet (fail)
        go_wp2
        go_ret
        obtain ⟨n, rfl⟩ := HN.out
        exact ⟨by rw [HE.out]; rfl, _, World.drewN_drewN _ _ _⟩
      · have hl : 2 ≤ lev a b := by have := HL.out; exact lev_past1 he this
        have HE := Lib.hid hl
        have hb : (a / 4096 == b / 4096) = false := by simpa using he
        clear he hl HL
        go_wp2
        go_quiet (fail)
        go_wp2
        go_roundw
        case rel =>
          obtain ⟨n, rfl⟩ := HN.out
          exact ⟨2, by omega, HE, by go_num, Lib.hid ⟨_, World.drewN_drewN _ _ _⟩⟩
        case measure => simp [intOf]
    · by_cases he : a / 262144 = b / 262144
      · have hl : lev a b = 2 := by have := HL.out; exact lev_at2 he this
        have HE := Lib.hid hl
        have hb : (a / 262144 == b / 262144) = true := by simpa using he
        clear he hl HL
        go_wp2
        go_quiet (fail)
        go_wp2
        go_ret
        obtain ⟨n, rfl⟩ := HN.out
        exact ⟨by rw [HE.out]; rfl, _, World.drewN_drewN _ _ _⟩
      · have hl : 3 ≤ lev a b := by have := HL.out; exact lev_past2 he this
        have HE := Lib.hid hl
        have hb : (a / 262144 == b / 262144) = false := by simpa using he
        clear he hl HL
        go_wp2
        go_quiet (fail)
        go_wp2
        go_roundw
        case rel =>
          obtain ⟨n, rfl⟩ := HN.out
          exact ⟨3, by omega, HE, by go_num, Lib.hid ⟨_, World.drewN_drewN _ _ _⟩⟩
        case measure => simp [intOf]
    · by_cases he : a / 16777216 = b / 16777216
      · have hl : lev a b = 3 := by have := HL.out; exact lev_at3 he this
        have HE := Lib.hid hl
        have hb : (a / 16777216 == b / 16777216) = true := by simpa using he
        clear he hl HL
        go_wp2
        go_quiet (fail)
        go_wp2
        go_ret
        obtain ⟨n, rfl⟩ := HN.out
        exact ⟨by rw [HE.out]; rfl, _, World.drewN_drewN _ _ _⟩
      · have hl : 4 ≤ lev a b := by have := HL.out; exact lev_past3 he this
        have HE := Lib.hid hl
        have hb : (a / 16777216 == b / 16777216) = false := by simpa using he
        clear he hl HL
        go_wp2
        go_quiet (fail)
        go_wp2
        go_roundw
        case rel =>
          obtain ⟨n, rfl⟩ := HN.out
          exact ⟨4, by omega, HE, by go_num, Lib.hid ⟨_, World.drewN_drewN _ _ _⟩⟩
        case measure => simp [intOf]
    · by_cases he : a / 1073741824 = b / 1073741824
      · have hl : lev a b = 4 := by have := HL.out; exact lev_at4 he this
        have HE := Lib.hid hl
        have hb : (a / 1073741824 == b / 1073741824) = true := by simpa using he
        clear he hl HL
        go_wp2
        go_quiet (fail)
        go_wp2
        go_ret
        obtain ⟨n, rfl⟩ := HN.out
        exact ⟨by rw [HE.out]; rfl, _, World.drewN_drewN _ _ _⟩
      · have hl : 5 ≤ lev a b := by have := HL.out; exact lev_past4 he this
        have HE := Lib.hid hl
        have hb : (a / 1073741824 == b / 1073741824) = false := by simpa using he
        clear he hl HL
        go_wp2
        go_quiet (fail)
        go_wp2
        go_roundw
        case rel =>
          obtain ⟨n, rfl⟩ := HN.out
          exact ⟨5, by omega, HE, by go_num, Lib.hid ⟨_, World.drewN_drewN _ _ _⟩⟩
        case measure => simp [intOf]
    · have hl : lev a b = 5 := by have := HL.out; have := lev_le a b; omega
      have HE := Lib.hid hl
      clear hl HL
      go_wp2
      go_ret
      exact ⟨by rw [HE.out]; rfl, HN.out⟩

theorem level_any (a b : Int) (w : World) (wa : (Lit.int .i64 a).wf = true) (wb : (Lit.int .i64 b).wf = true) :
    Calls Tryd.prog 60 #[.int .i64 a, .int .i64 b] w fun e w' => e = .returned (.int .i64 (levI a b)) ∧ ∃ n, w' = w.drewN n := by
  have ha := i64_bounds wa
  have hb := i64_bounds wb
  by_cases h : a < 0 ∨ b < 0
  · rw [levI_bad h]
    by_cases h0 : a < 0
    · clear h
      go_enter Tryd.func60, Tryd.ntmps60
      go_wp2
      go_ret
      exact ⟨rfl, 0, rfl⟩
    · have h1 : b < 0 := by omega
      clear h
      go_enter Tryd.func60, Tryd.ntmps60
      go_wp2
      go_ret
      exact ⟨rfl, 0, rfl⟩
  · rw [levI_ok (by omega) (by omega)]
    exact level_ok a b w (by omega) (by omega) ha.2 hb.2

def slotI (a l : Int) : Int := if a < 0 ∨ l < 0 ∨ 4 < l then -1 else dig a l.toNat
theorem slotI_bad {a l : Int} (h : a < 0 ∨ l < 0 ∨ 4 < l) : slotI a l = -1 := if_pos h
theorem slotI_ok {a l : Int} (h0 : 0 ≤ a) (h1 : 0 ≤ l) (h4 : l ≤ 4) : slotI a l = dig a l.toNat := if_neg (by omega)

theorem slot_any (a l : Int) (w : World) (wa : (Lit.int .i64 a).wf = true) (wl : (Lit.int .i64 l).wf = true) :
    Calls Tryd.prog 61 #[.int .i64 a, .int .i64 l] w fun e w' => e = .returned (.int .i64 (slotI a l)) ∧ w = w' := by
  have ha := i64_bounds wa
  have hb := i64_bounds wl
  by_cases h0 : a < 0
  · rw [slotI_bad (.inl h0)]
    go_enter Tryd.func61, Tryd.ntmps61
    go_wp2
    go_ret
    exact ⟨rfl, rfl⟩
  by_cases h1 : l < 0
  · rw [slotI_bad (.inr (.inl h1))]
    go_enter Tryd.func61, Tryd.ntmps61
    go_wp2
    go_ret
    exact ⟨rfl, rfl⟩
  by_cases h4 : 4 < l
  · rw [slotI_bad (.inr (.inr h4))]
    have h5 : decide (5 ≤ l) = true := by simp; omega
    go_enter Tryd.func61, Tryd.ntmps61
    go_wp2
    go_ret
    exact ⟨rfl, rfl⟩
  · rw [slotI_ok (by omega) (by omega) (by omega)]
    have h5 : l = 0 ∨ l = 1 ∨ l = 2 ∨ l = 3 ∨ l = 4 := by omega
    have hn : decide (a < 0) = false := by simp; omega
    clear h0 h1 h4
    have h0 : 0 ≤ a := by simpa using hn
    clear hn hb wl wa
    rcases h5 with rfl | rfl | rfl | rfl | rfl
    all_goals
      go_enter Tryd.func61, Tryd.ntmps61
      go_wp2
      go_ret
      exact ⟨rfl, rfl⟩

theorem in_any (a lo hi : Int) (w : World) :
    Calls Tryd.prog 50 #[.int .i64 a, .int .i64 lo, .int .i64 hi] w fun e w' => e = .returned (.bool (decide (lo ≤ a ∧ a ≤ hi))) ∧ w = w' := by
  by_cases h : lo ≤ a
  · by_cases h2 : a ≤ hi
    · have e : decide (lo ≤ a ∧ a ≤ hi) = true := by simp [h, h2]
      rw [e]
      go_enter Tryd.func50, Tryd.ntmps50
      go_wp2
      go_ret
      exact ⟨by first | rfl | (simp; done) | (simp [h]; done) | (simp [h2]; done), rfl⟩
    · have e : decide (lo ≤ a ∧ a ≤ hi) = false := by simp [h2]
      rw [e]
      go_enter Tryd.func50, Tryd.ntmps50
      go_wp2
      go_ret
      exact ⟨by first | rfl | (simp; done) | (simp [h]; done) | (simp [h2]; done), rfl⟩
  · have e : decide (lo ≤ a ∧ a ≤ hi) = false := by simp [h]
    rw [e]
    go_enter Tryd.func50, Tryd.ntmps50
    go_wp2
    go_ret
    exact ⟨by first | rfl | (simp; done), rfl⟩
theorem in_yes (a lo hi : Int) (w : World) (h : lo ≤ a) (h2 : a ≤ hi) :
    Calls Tryd.prog 50 #[.int .i64 a, .int .i64 lo, .int .i64 hi] w fun e w' => e = .returned (.bool true) ∧ w = w' := by
  have := in_any a lo hi w
  rwa [show decide (lo ≤ a ∧ a ≤ hi) = true by simp [h, h2]] at this
theorem in_no (a lo hi : Int) (w : World) (h : a < lo ∨ hi < a) :
    Calls Tryd.prog 50 #[.int .i64 a, .int .i64 lo, .int .i64 hi] w fun e w' => e = .returned (.bool false) ∧ w = w' := by
  have := in_any a lo hi w
  rwa [show decide (lo ≤ a ∧ a ≤ hi) = false by simp; omega] at this

theorem below_drewN {B : Nat} {a w : World} (h : Below B a w) (n : Nat) : Below B a (w.drewN n) := ⟨h.os, h.tape, h.output, h.size, h.block⟩

end Go.Proofs.YtkoliacbajpijaaDoor.Whl
