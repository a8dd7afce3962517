/-
  Plain arithmetic of a wheel of five levels of 64 slots. No Go in sight.
-/
namespace Go.Proofs.YtkoliacbajpijaaDoor.Whl
set_option linter.unusedVariables false

/-- how many digits of 64 stand behind the first in which both part -/
def lev (a b : Int) : Nat :=
  if a / 64 = b / 64 then 0 else if a / 4096 = b / 4096 then 1 else if a / 262144 = b / 262144 then 2
  else if a / 16777216 = b / 16777216 then 3 else if a / 1073741824 = b / 1073741824 then 4 else 5
/-- a digit of 64 -/
def dig (a : Int) : Nat → Int
  | 0 => a % 64
  | 1 => a / 64 % 64
  | 2 => a / 4096 % 64
  | 3 => a / 262144 % 64
  | _ => a / 16777216 % 64
/-- the first time of a slot -/
def bgn (now : Int) (l : Nat) (s : Int) : Int :=
  match l with
  | 0 => now / 64 * 64 + s
  | 1 => now / 4096 * 4096 + s * 64
  | 2 => now / 262144 * 262144 + s * 4096
  | 3 => now / 16777216 * 16777216 + s * 262144
  | _ => now / 1073741824 * 1073741824 + s * 16777216

theorem lev_le (a b : Int) : lev a b ≤ 5 := by
  unfold lev
  repeat' split
  all_goals omega
theorem lev_four (a b : Int) (h0 : 0 ≤ a) (h1 : a ≤ 1000000000) (h2 : 0 ≤ b) (h3 : b ≤ 1000000000) : lev a b ≤ 4 := by
  unfold lev
  rw [if_pos (show a / 1073741824 = b / 1073741824 by omega)]
  repeat' split
  all_goals omega
theorem dig_bd (a : Int) (l : Nat) : 0 ≤ dig a l ∧ dig a l < 64 := by
  unfold dig; split <;> omega

theorem lev_eq0 {a b : Int} (h : lev a b = 0) : a / 64 = b / 64 := by
  unfold lev at h
  split at h
  · assumption
  · exfalso; revert h; (repeat' split) <;> omega
theorem lev_eq1 {a b : Int} (h : lev a b = 1) : a / 64 ≠ b / 64 ∧ a / 4096 = b / 4096 := by
  unfold lev at h
  split at h
  · omega
  · split at h
    · exact ⟨by assumption, by assumption⟩
    · exfalso; revert h; (repeat' split) <;> omega
theorem lev_eq2 {a b : Int} (h : lev a b = 2) : a / 4096 ≠ b / 4096 ∧ a / 262144 = b / 262144 := by
  unfold lev at h
  split at h
  · omega
  · split at h
    · omega
    · split at h
      · exact ⟨by assumption, by assumption⟩
      · exfalso; revert h; (repeat' split) <;> omega
theorem lev_eq3 {a b : Int} (h : lev a b = 3) : a / 262144 ≠ b / 262144 ∧ a / 16777216 = b / 16777216 := by
  unfold lev at h
  split at h
  · omega
  · split at h
    · omega
    · split at h
      · omega
      · split at h
        · exact ⟨by assumption, by assumption⟩
        · exfalso; revert h; (repeat' split) <;> omega
theorem lev_eq4 {a b : Int} (h : lev a b = 4) : a / 16777216 ≠ b / 16777216 ∧ a / 1073741824 = b / 1073741824 := by
  unfold lev at h
  split at h
  · omega
  · split at h
    · omega
    · split at h
      · omega
      · split at h
        · omega
        · split at h
          · exact ⟨by assumption, by assumption⟩
          · omega
theorem lev_is0 {a b : Int} (h : a / 64 = b / 64) : lev a b = 0 := by unfold lev; rw [if_pos h]
theorem lev_is1 {a b : Int} (h : a / 64 ≠ b / 64) (h1 : a / 4096 = b / 4096) : lev a b = 1 := by unfold lev; rw [if_neg h, if_pos h1]
theorem lev_is2 {a b : Int} (h : a / 4096 ≠ b / 4096) (h1 : a / 262144 = b / 262144) : lev a b = 2 := by
  unfold lev; rw [if_neg (by omega), if_neg h, if_pos h1]
theorem lev_is3 {a b : Int} (h : a / 262144 ≠ b / 262144) (h1 : a / 16777216 = b / 16777216) : lev a b = 3 := by
  unfold lev; rw [if_neg (by omega), if_neg (by omega), if_neg h, if_pos h1]
theorem lev_is4 {a b : Int} (h : a / 16777216 ≠ b / 16777216) (h1 : a / 1073741824 = b / 1073741824) : lev a b = 4 := by
  unfold lev; rw [if_neg (by omega), if_neg (by omega), if_neg (by omega), if_neg h, if_pos h1]

/-- what a level says -/
def AtLev (a b : Int) : Nat → Prop
  | 0 => a / 64 = b / 64
  | 1 => a / 64 ≠ b / 64 ∧ a / 4096 = b / 4096
  | 2 => a / 4096 ≠ b / 4096 ∧ a / 262144 = b / 262144
  | 3 => a / 262144 ≠ b / 262144 ∧ a / 16777216 = b / 16777216
  | _ => a / 16777216 ≠ b / 16777216 ∧ a / 1073741824 = b / 1073741824
theorem atLev {a b : Int} {l : Nat} (h : lev a b = l) (hl : l ≤ 4) : AtLev a b l := by
  have : l = 0 ∨ l = 1 ∨ l = 2 ∨ l = 3 ∨ l = 4 := by omega
  rcases this with rfl | rfl | rfl | rfl | rfl
  · exact lev_eq0 h
  · exact lev_eq1 h
  · exact lev_eq2 h
  · exact lev_eq3 h
  · exact lev_eq4 h
theorem lev_of {a b : Int} {l : Nat} (h : AtLev a b l) (hl : l ≤ 4) : lev a b = l := by
  have : l = 0 ∨ l = 1 ∨ l = 2 ∨ l = 3 ∨ l = 4 := by omega
  rcases this with rfl | rfl | rfl | rfl | rfl
  · exact lev_is0 h
  · exact lev_is1 h.1 h.2
  · exact lev_is2 h.1 h.2
  · exact lev_is3 h.1 h.2
  · exact lev_is4 h.1 h.2

theorem five {l : Nat} (hl : l ≤ 4) : l = 0 ∨ l = 1 ∨ l = 2 ∨ l = 3 ∨ l = 4 := by omega

/-- a slot's first time is no later than what stands in it or behind it -/
theorem bgn_le {now at_ : Int} {l0 l : Nat} {s0 : Int} (hl0 : l0 ≤ 4) (hl : l ≤ 4) (hn : now ≤ at_) (hs0 : 0 ≤ s0) (hs1 : s0 < 64)
    (ha : AtLev now at_ l) (hf : l0 < l ∨ l0 = l ∧ s0 ≤ dig at_ l) : bgn now l0 s0 ≤ at_ := by
  rcases five hl0 with rfl | rfl | rfl | rfl | rfl <;> rcases five hl with rfl | rfl | rfl | rfl | rfl <;> simp only [AtLev, dig, bgn] at * <;> omega
theorem now_le_bgn {now at_ : Int} {l : Nat} (hl : l ≤ 4) (hn : now ≤ at_) (ha : AtLev now at_ l) : now ≤ bgn now l (dig at_ l) := by
  rcases five hl with rfl | rfl | rfl | rfl | rfl <;> simp only [AtLev, dig, bgn] at * <;> omega
theorem bgn_zero {now at_ : Int} (ha : AtLev now at_ 0) : bgn now 0 (dig at_ 0) = at_ := by
  simp only [AtLev, dig, bgn] at *; omega
theorem bgn_nonneg {now : Int} {l : Nat} {s : Int} (hl : l ≤ 4) (hn : 0 ≤ now) (hs : 0 ≤ s) : 0 ≤ bgn now l s := by
  rcases five hl with rfl | rfl | rfl | rfl | rfl <;> simp only [bgn] at * <;> omega
/-- what doesn't stand in the first slot stays where it stands when now moves to that slot's first time -/
theorem stay_bgn {now at_ : Int} {l0 l : Nat} {s0 : Int} (hl0 : l0 ≤ 4) (hl : l ≤ 4) (hn : now ≤ at_) (hs0 : 0 ≤ s0) (hs1 : s0 < 64) (hnb : now ≤ bgn now l0 s0)
    (ha : AtLev now at_ l) (hf : l0 < l ∨ l0 = l ∧ s0 < dig at_ l) : AtLev (bgn now l0 s0) at_ l := by
  rcases five hl0 with rfl | rfl | rfl | rfl | rfl <;> rcases five hl with rfl | rfl | rfl | rfl | rfl <;> simp only [AtLev, dig, bgn] at * <;> omega
/-- what stands in the first slot of a higher level falls lower -/
theorem fall_bgn {now at_ : Int} {l : Nat} (hl : l ≤ 4) (h0 : 0 < l) (hn : now ≤ at_) (ha : AtLev now at_ l) : lev (bgn now l (dig at_ l)) at_ < l := by
  rcases five hl with rfl | rfl | rfl | rfl | rfl
  · omega
  · have : lev (bgn now 1 (dig at_ 1)) at_ = 0 := lev_is0 (by simp only [AtLev, dig, bgn] at *; omega)
    omega
  · have : (bgn now 2 (dig at_ 2)) / 4096 = at_ / 4096 := by simp only [AtLev, dig, bgn] at *; omega
    unfold lev; rw [if_pos this]; (repeat' split) <;> omega
  · have : (bgn now 3 (dig at_ 3)) / 262144 = at_ / 262144 := by simp only [AtLev, dig, bgn] at *; omega
    unfold lev; rw [if_pos this]; (repeat' split) <;> omega
  · have : (bgn now 4 (dig at_ 4)) / 16777216 = at_ / 16777216 := by simp only [AtLev, dig, bgn] at *; omega
    unfold lev; rw [if_pos this]; (repeat' split) <;> omega
/-- .. and when now moves to any time ahead of it -/
theorem stay_to {now to at_ : Int} {l0 l : Nat} {s0 : Int} (hl0 : l0 ≤ 4) (hl : l ≤ 4) (hn : now ≤ to) (hs0 : 0 ≤ s0) (hs1 : s0 < 64) (hnb : to < bgn now l0 s0) (hat : now ≤ at_)
    (ha : AtLev now at_ l) (hf : l0 < l ∨ l0 = l ∧ s0 ≤ dig at_ l) : AtLev to at_ l := by
  rcases five hl0 with rfl | rfl | rfl | rfl | rfl <;> rcases five hl with rfl | rfl | rfl | rfl | rfl <;> simp only [AtLev, dig, bgn] at * <;> omega
end Go.Proofs.YtkoliacbajpijaaDoor.Whl
