/-
  Why a drawn text comes to its end: the numbers that the cursor goes through are all numbers of 64 bits, so that from anywhere three good ones come one behind the other. No program in sight.
-/
import Derived.Test.YtgbdmpfojiihnaaDoorDrwA
import Derived.Deep.LoopGhost
namespace Go.Proofs.YtgbdmpfojiihnaaDoor.Txt
open Go.RowKit Go.Proofs.YtgbdmpfojiihnaaDoor.Kit
set_option linter.unusedVariables false

/-- one step, not cut to 64 bits -/
def lcg (x : Int) : Int := x * 6364136223846793005 + 1442695040888963407
def lcgN : Nat → Int → Int
  | 0, x => x
  | k + 1, x => lcgN k (lcg x)
theorem lcgN_add (m n : Nat) : ∀ x, lcgN (m + n) x = lcgN m (lcgN n x) := by
  induction n with
  | zero => intro x; rfl
  | succ n ih => intro x; exact ih (lcg x)
theorem lcgN_pow (k : Nat) : ∃ A C t u : Int, (∀ x, lcgN (2 ^ k) x = A * x + C) ∧ A = 1 + 4 * 2 ^ k * t ∧ C = 2 ^ k * (2 * u + 1) := by
  induction k with
  | zero => exact ⟨6364136223846793005, 1442695040888963407, 1591034055961698251, 721347520444481703, fun x => by show lcg x = _; unfold lcg; omega, by decide, by decide⟩
  | succ k ih =>
    obtain ⟨A, C, t, u, h1, h2, h3⟩ := ih
    refine ⟨A * A, A * C + C, t + 2 * 2 ^ k * t * t, u + (2 * u + 1) * 2 ^ k * t, fun x => ?_, ?_, ?_⟩
    · rw [show 2 ^ (k + 1) = 2 ^ k + 2 ^ k by omega, lcgN_add, h1, h1]; grind
    · rw [h2, show (2 : Int) ^ (k + 1) = 2 ^ k * 2 from Int.pow_succ 2 k]; grind
    · rw [h3, h2, show (2 : Int) ^ (k + 1) = 2 ^ k * 2 from Int.pow_succ 2 k]; grind
theorem reach (k : Nat) : ∀ x g : Int, ∃ m, m < 2 ^ k ∧ ∃ q, lcgN m x - g = 2 ^ k * q := by
  induction k with
  | zero => intro x g; exact ⟨0, by simp, x - g, by simp [lcgN]⟩
  | succ k ih =>
    intro x g
    obtain ⟨m, hm, q, hq⟩ := ih x g
    rcases Int.emod_two_eq q with h | h
    · obtain ⟨r, rfl⟩ : ∃ r, q = 2 * r := ⟨q / 2, by omega⟩
      exact ⟨m, by omega, r, by rw [hq, show (2 : Int) ^ (k + 1) = 2 ^ k * 2 from Int.pow_succ 2 k]; grind⟩
    · obtain ⟨r, rfl⟩ : ∃ r, q = 2 * r + 1 := ⟨q / 2, by omega⟩
      obtain ⟨A, C, t, u, h1, h2, h3⟩ := lcgN_pow k
      refine ⟨2 ^ k + m, by omega, r + u + 1 + 2 * t * lcgN m x, ?_⟩
      rw [lcgN_add, h1, h2, h3, show (2 : Int) ^ (k + 1) = 2 ^ k * 2 from Int.pow_succ 2 k]
      grind

/-- the two numbers are one of 64 bits -/
def Like (x y : Int) : Prop := ∃ q, x - y = 18446744073709551616 * q
theorem Like.trans {x y z : Int} (h : Like x y) (k : Like y z) : Like x z := by
  obtain ⟨q, hq⟩ := h; obtain ⟨r, hr⟩ := k; exact ⟨q + r, by omega⟩
theorem nextH_like (x : Int) : Like (nextH x) (lcg x) := by
  unfold Like nextH lcg
  generalize x * 6364136223846793005 = z
  exact ⟨((wrap64 (wrap64 z + 1442695040888963407)) - (z + 1442695040888963407)) / 18446744073709551616, by unfold wrap64; omega⟩
theorem nextH_eq {x y : Int} (h : Like x y) : nextH x = nextH y := by
  obtain ⟨q, hq⟩ := h
  unfold nextH
  obtain ⟨r, hr⟩ : ∃ r, x * 6364136223846793005 - y * 6364136223846793005 = 18446744073709551616 * r := ⟨q * 6364136223846793005, by omega⟩
  generalize x * 6364136223846793005 = z at *
  generalize y * 6364136223846793005 = z' at *
  have : wrap64 z = wrap64 z' := by unfold wrap64; omega
  rw [this]
theorem lcgN_like (m : Nat) : ∀ {x y : Int}, Like x y → Like (lcgN m x) (lcgN m y) := by
  induction m with
  | zero => intro x y h; exact h
  | succ m ih =>
    intro x y h
    refine ih ?_
    obtain ⟨q, hq⟩ := h
    exact ⟨q * 6364136223846793005, by unfold lcg; omega⟩

/-- the byte drawn next makes the text grow -/
def good (h : Int) : Prop := outH (nextH h) % 5 ≠ 1 ∧ outH (nextH h) % 5 ≠ 2
theorem good_like {x y : Int} (h : Like x y) (k : good y) : good x := by unfold good; rw [nextH_eq h]; exact k
/-- within k rounds, of one step or of three, a good number comes -/
def soon : Nat → Int → Prop
  | 0, h => good h
  | k + 1, h => good h ∨ (soon k (nextH h) ∧ soon k (nextH (nextH (nextH h))))
theorem soon_succ (k : Nat) : ∀ h, soon k h → soon (k + 1) h := by
  induction k with
  | zero => intro h hk; exact .inl hk
  | succ k ih =>
    intro h hk
    rcases hk with hk | ⟨h1, h2⟩
    · exact .inl hk
    · exact .inr ⟨ih _ h1, ih _ h2⟩
theorem soon_add (k j : Nat) (h : Int) (hk : soon k h) : soon (k + j) h := by
  induction j with
  | zero => exact hk
  | succ j ih => exact soon_succ _ _ ih
theorem good0 : good 8 := by unfold good; decide +kernel
theorem good1 : good (nextH 8) := by unfold good; decide +kernel
theorem good2 : good (nextH (nextH 8)) := by unfold good; decide +kernel
theorem soon_of (m : Nat) : ∀ h, Like (lcgN m h) 8 → soon m h := by
  induction m using Nat.strongRecOn with
  | _ m ih =>
    intro h hm
    have hn : ∀ j x, Like (lcgN (j + 1) x) 8 → Like (lcgN j (nextH x)) 8 := fun j x hx => (lcgN_like j (nextH_like x)).trans hx
    match m, ih, hm with
    | 0, ih, hm => exact good_like hm good0
    | 1, ih, hm =>
      have h1 : Like (nextH h) 8 := hn 0 h hm
      refine .inr ⟨good_like h1 good0, ?_⟩
      show good _
      rw [nextH_eq h1]; exact good2
    | 2, ih, hm =>
      have h1 := hn 1 h hm
      have h2 : Like (nextH (nextH h)) 8 := hn 0 _ h1
      refine .inr ⟨ih 1 (by omega) _ h1, .inl ?_⟩
      rw [nextH_eq h2]; exact good1
    | m + 3, ih, hm =>
      have h1 := hn (m + 2) h hm
      have h2 := hn (m + 1) _ h1
      have h3 := hn m _ h2
      exact .inr ⟨ih (m + 2) (by omega) _ h1, soon_add m 2 _ (ih m (by omega) _ h3)⟩
theorem soon_all (h : Int) : ∃ k, k < 18446744073709551616 ∧ soon k h := by
  obtain ⟨m, hm, q, hq⟩ := reach 64 h 8
  exact ⟨m, by simpa using hm, soon_of m h ⟨q, by simpa using hq⟩⟩
/-- how many rounds at most till a good number comes -/
noncomputable def toGood (h : Int) : Nat := leastOf (fun k => soon k h)
theorem toGood_lt (h : Int) : toGood h < 18446744073709551616 := by
  obtain ⟨k, hk, hs⟩ := soon_all h
  exact Nat.lt_of_le_of_lt ((leastOf_spec ⟨k, hs⟩).2 k hs) hk
theorem toGood_next (h : Int) (hg : ¬ good h) : toGood (nextH h) < toGood h ∧ toGood (nextH (nextH (nextH h))) < toGood h := by
  obtain ⟨k, hk, hs⟩ := soon_all h
  have h1 := (leastOf_spec (p := fun k => soon k h) ⟨k, hs⟩).1
  change soon (toGood h) h at h1
  obtain ⟨n, hn⟩ : ∃ n, n = toGood h := ⟨_, rfl⟩
  rw [← hn] at h1 ⊢
  cases n with
  | zero => exact absurd h1 hg
  | succ n =>
    rcases h1 with h1 | ⟨h1, h2⟩
    · exact absurd h1 hg
    · exact ⟨Nat.lt_succ_of_le ((leastOf_spec (p := fun k => soon k (nextH h)) ⟨n, h1⟩).2 n h1), Nat.lt_succ_of_le ((leastOf_spec (p := fun k => soon k (nextH (nextH (nextH h)))) ⟨n, h2⟩).2 n h2)⟩

/-- how far a text of o bytes is from its end, at most -/
noncomputable def left (n len o : Nat) (s : Nat × Int) : Nat := (n - o) * 1237940039285380274899124224 + (len - s.1) * 73786976294838206464 + toGood s.2
theorem left_grow (n len o o' : Nat) (s s' : Nat × Int) (ho : o < n) (hl : len ≤ 1048576) (h : o < o') : left n len o' s' < left n len o s := by
  have h1 := toGood_lt s'.2
  unfold left
  omega
theorem byteF_in (c : Nat → Int) (len : Nat) (s : Nat × Int) (h : s.1 < len) : (byteF c len s).2 = (s.1 + 1, nextH s.2) := by unfold byteF; rw [if_pos h]
theorem byteF_out (c : Nat → Int) (len : Nat) (s : Nat × Int) (h : ¬ s.1 < len) : byteF c len s = (outH (nextH s.2), (s.1, nextH s.2)) := by unfold byteF; rw [if_neg h]
theorem byteF_ge (c : Nat → Int) (len : Nat) (s : Nat × Int) : s.1 ≤ (byteF c len s).2.1 := by unfold byteF; split <;> simp
theorem left_one (n len o : Nat) (c : Nat → Int) (s : Nat × Int) (h : (belowF c len 5 s).1 = 2) : left n len o (belowF c len 5 s).2 < left n len o s := by
  have e : (belowF c len 5 s).2 = (byteF c len s).2 := rfl
  have e1 : (belowF c len 5 s).1 = (byteF c len s).1 % 5 := rfl
  rw [e1] at h
  rw [e]
  have h1 := toGood_lt (byteF c len s).2.2
  by_cases hl : s.1 < len
  · have h2 := byteF_in c len s hl
    unfold left
    rw [h2] at h1 ⊢
    dsimp only at h1 ⊢
    omega
  · have h2 := byteF_out c len s hl
    rw [h2] at h ⊢
    have h3 := toGood_next s.2 (fun hg => hg.2 h)
    unfold left
    dsimp only
    omega
theorem left_three (n len o : Nat) (c : Nat → Int) (s : Nat × Int) (i j : Int) (h : (belowF c len 5 s).1 = 1 ∨ (belowF c len 5 s).1 = 2) :
    left n len o (belowF c len j (belowF c len i (belowF c len 5 s).2).2).2 < left n len o s := by
  show left n len o (byteF c len (byteF c len (byteF c len s).2).2).2 < _
  have e1 : (belowF c len 5 s).1 = (byteF c len s).1 % 5 := rfl
  rw [e1] at h
  have h1 := toGood_lt (byteF c len (byteF c len (byteF c len s).2).2).2.2
  by_cases hl : s.1 < len
  · have h2 := byteF_in c len s hl
    have h3 := byteF_ge c len (byteF c len s).2
    have h4 := byteF_ge c len (byteF c len (byteF c len s).2).2
    have h5 : (byteF c len s).2.1 = s.1 + 1 := by rw [h2]
    unfold left
    omega
  · have h2 := byteF_out c len s hl
    have h3 := byteF_out c len (s.1, nextH s.2) hl
    have h4 := byteF_out c len (s.1, nextH (nextH s.2)) hl
    rw [h2] at h
    dsimp only at h
    rw [h2, h3, h4]
    have h5 := toGood_next s.2 (fun hg => by rcases h with h | h; exact hg.1 h; exact hg.2 h)
    unfold left
    dsimp only
    omega
end Go.Proofs.YtgbdmpfojiihnaaDoor.Txt
