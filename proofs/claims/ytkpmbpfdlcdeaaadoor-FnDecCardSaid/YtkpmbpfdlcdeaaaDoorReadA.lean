/-
  Plain facts on reading a decimal text. No Go in sight.
-/
import Derived.Test.YtkpmbpfdlcdeaaaDoorDecA
namespace Go.Proofs.YtkpmbpfdlcdeaaaDoor.Dec
open Go.RowKit

def isDig (c : UInt8) : Prop := 48 ≤ c.toNat ∧ c.toNat ≤ 57
instance (c : UInt8) : Decidable (isDig c) := by unfold isDig; infer_instance
def dval (l : List UInt8) : Nat := l.foldl (fun n c => n * 10 + (c.toNat - 48)) 0
theorem dval_snoc (l : List UInt8) (c : UInt8) : dval (l ++ [c]) = dval l * 10 + (c.toNat - 48) := by
  unfold dval; rw [List.foldl_append]; rfl
theorem snoc_ind {P : List UInt8 → Prop} (h0 : P []) (h1 : ∀ l c, P l → P (l ++ [c])) (l : List UInt8) : P l := by
  have h : ∀ n (l : List UInt8), l.length = n → P l := by
    intro n
    induction n with
    | zero => intro l hl; rw [List.eq_nil_of_length_eq_zero hl]; exact h0
    | succ n ih =>
      intro l hl
      have hne : l ≠ [] := by intro e; subst e; simp at hl
      rw [← List.dropLast_concat_getLast hne]
      exact h1 _ _ (ih _ (by rw [List.length_dropLast]; omega))
  exact h _ l rfl
theorem dval_lt (l : List UInt8) : (∀ c ∈ l, isDig c) → dval l < 10 ^ l.length := by
  refine snoc_ind (P := fun l => (∀ c ∈ l, isDig c) → dval l < 10 ^ l.length) (fun _ => by decide) (fun l c ih h => ?_) l
  rw [dval_snoc, List.length_append, List.length_singleton, Nat.pow_succ]
  have h1 := ih (fun d hd => h d (List.mem_append_left _ hd))
  have h2 := h c (by simp)
  unfold isDig at h2
  omega
/-- what a text must be, so that it is the text of a number of 0 .. 999999999 -/
def good (l : List UInt8) : Prop := l ≠ [] ∧ l.length ≤ 9 ∧ (∀ c ∈ l, isDig c) ∧ (l.head? = some 48 → l.length = 1)
instance (l : List UInt8) : Decidable (good l) := by unfold good; infer_instance
def readVal (l : List UInt8) : Int := if good l then (dval l : Int) else -1
theorem readVal_ok {l : List UInt8} (h : good l) : readVal l = (dval l : Int) := if_pos h
theorem readVal_bad {l : List UInt8} (h : ¬ good l) : readVal l = -1 := if_neg h
theorem dig_back (c : UInt8) (h : isDig c) : UInt8.ofNat (48 + (c.toNat - 48)) = c := by
  unfold isDig at h
  rw [show 48 + (c.toNat - 48) = c.toNat by omega]; simp
/-- no nought ahead: the text comes back -/
theorem dd_dval (l : List UInt8) : (∀ c ∈ l, isDig c) → l.head? ≠ some 48 → dd (dval l) = l ∧ (l ≠ [] → dval l ≠ 0) := by
  refine snoc_ind (P := fun l => (∀ c ∈ l, isDig c) → l.head? ≠ some 48 → dd (dval l) = l ∧ (l ≠ [] → dval l ≠ 0)) (fun _ _ => ⟨by simp [dd, dval], fun h => absurd rfl h⟩) (fun l c ih h hh => ?_) l
  have hc := h c (by simp)
  have hcd := hc
  unfold isDig at hcd
  have hl : ∀ d ∈ l, isDig d := fun d hd => h d (List.mem_append_left _ hd)
  by_cases hn : l = []
  · subst hn
    have hc48 : c ≠ 48 := by intro e; subst e; simp at hh
    have hne : c.toNat ≠ 48 := by intro e; apply hc48; apply UInt8.toNat_inj.1; rw [e]; rfl
    have hv : dval ([] ++ [c]) = c.toNat - 48 := by rw [dval_snoc]; simp [dval]
    have hnz : dval ([] ++ [c]) ≠ 0 := by rw [hv]; omega
    refine ⟨?_, fun _ => hnz⟩
    rw [dd_step _ hnz, hv, show (c.toNat - 48) / 10 = 0 by omega, Nat.mod_eq_of_lt (by omega), dig_back c hc]
    simp [dd]
  · have hh' : l.head? ≠ some 48 := by
      cases l with
      | nil => exact absurd rfl hn
      | cons x t => simpa using hh
    obtain ⟨h1, h2⟩ := ih hl hh'
    have h3 := h2 hn
    have hv := dval_snoc l c
    have hnz : dval (l ++ [c]) ≠ 0 := by omega
    refine ⟨?_, fun _ => hnz⟩
    rw [dd_step _ hnz, hv, show (dval l * 10 + (c.toNat - 48)) / 10 = dval l by omega, h1, show (dval l * 10 + (c.toNat - 48)) % 10 = c.toNat - 48 by omega, dig_back c hc]
theorem dval_cons0 (l : List UInt8) : dval (48 :: l) = dval l := by
  unfold dval; rw [List.foldl_cons]; rfl
theorem itoa_nat (u : Nat) : Lib.itoa (u : Int) = Lib.decDigits u := Lib.itoa_nonneg u
theorem decDigits_dd (u : Nat) (h : u ≠ 0) : Lib.decDigits u = dd u := by unfold dd; rw [if_neg h]
/-- the specification's test: the text of the number read is the text itself just where there is no needless nought -/
theorem text_iff (l : List UInt8) (hne : l ≠ []) (hd : ∀ c ∈ l, isDig c) : Lib.itoa ((dval l : Nat) : Int) = l ↔ (l.head? = some 48 → l.length = 1) := by
  rw [itoa_nat]
  by_cases h0 : l.head? = some 48
  · cases l with
    | nil => exact absurd rfl hne
    | cons c t =>
      have hc : c = 48 := by simpa using h0
      subst hc
      rw [dval_cons0]
      by_cases ht : t = []
      · subst ht
        simp [dval, Lib.decDigits_one]
      · have hlt := dval_lt t (fun d hd' => hd d (List.mem_cons_of_mem _ hd'))
        have htl : 1 ≤ t.length := by cases t with | nil => exact absurd rfl ht | cons _ _ => simp
        constructor
        · intro h
          have hlen := congrArg List.length h
          by_cases hz : dval t = 0
          · rw [hz, Lib.decDigits_one (by omega)] at hlen
            simp only [List.length_cons, List.length_nil] at hlen
            omega
          · rw [decDigits_dd _ hz] at hlen
            have := dd_len (dval t) t.length hlt
            simp at hlen; omega
        · intro h
          have := h h0
          simp at this
          exact absurd this ht
  · have h := dd_dval l hd h0
    constructor
    · intro _ h1; exact absurd h1 h0
    · intro _
      rw [decDigits_dd _ (h.2 hne)]
      exact h.1
theorem take_snoc (s : ByteArray) (k : Nat) (h : k < s.size) : s.data.toList.take (k + 1) = s.data.toList.take k ++ [s[k]] := by
  rw [List.take_succ_eq_append_getElem (by simpa using h)]; rfl
theorem mem_get (s : ByteArray) (k : Nat) (h : k < s.size) : s[k] ∈ s.data.toList := by
  have : s.data.toList[k]'(by simpa using h) ∈ s.data.toList := List.getElem_mem _
  exact this
theorem bytes_len (s : ByteArray) : s.data.toList.length = s.size := by simp
theorem dval_take_lt (s : ByteArray) (k : Nat) (hk : k ≤ 9) (h : ∀ c ∈ s.data.toList.take k, isDig c) : ((dval (s.data.toList.take k) : Nat) : Int) < 1000000000 := by
  have h1 := dval_lt _ h
  have h2 : 10 ^ (s.data.toList.take k).length ≤ 10 ^ 9 := Nat.pow_le_pow_right (by decide) (Nat.le_trans (List.length_take_le _ _) hk)
  have h3 : (10 : Nat) ^ 9 = 1000000000 := by decide
  omega
theorem all_step (s : ByteArray) (k : Nat) (h : k < s.size) (h1 : ∀ c ∈ s.data.toList.take k, isDig c) (h2 : isDig s[k]) : ∀ c ∈ s.data.toList.take (k + 1), isDig c := by
  intro c hc
  rw [take_snoc s k h] at hc
  rcases List.mem_append.1 hc with hc | hc
  · exact h1 c hc
  · rw [List.mem_singleton] at hc; subst hc; exact h2
theorem val_step (s : ByteArray) (k : Nat) (h : k < s.size) : ((dval (s.data.toList.take (k + 1)) : Nat) : Int) = (dval (s.data.toList.take k) : Int) * 10 + ((s[k].toNat - 48 : Nat) : Int) := by
  rw [take_snoc s k h, dval_snoc]; omega
theorem bad_dig (s : ByteArray) (k : Nat) (h : k < s.size) (h2 : ¬ isDig s[k]) : ¬ good s.data.toList := fun hg => h2 (hg.2.2.1 _ (mem_get s k h))
theorem head_at (s : ByteArray) (h : 0 < s.size) : s.data.toList.head? = some s[0] := by
  rw [List.head?_eq_getElem?, List.getElem?_eq_getElem (by rw [bytes_len]; exact h)]; rfl
end Go.Proofs.YtkpmbpfdlcdeaaaDoor.Dec
