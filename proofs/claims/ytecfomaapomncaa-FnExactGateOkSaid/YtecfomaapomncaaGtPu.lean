/-
  A right gate: what the program asks and what the specification counts is the same.
-/
import Derived.Test.YtecfomaapomncaaGtSg
namespace Go.Proofs.Ytecfomaapomncaa.Gat
open Lnk (idsL LOk)
set_option linter.unusedVariables false

theorem perm_of_sub : ∀ (K ids : List Int), K.Nodup → (∀ x ∈ K, x ∈ ids) → ids.length ≤ K.length → ids.Perm K
  | [], ids, _, _, hl => by
    have : ids = [] := List.length_eq_zero_iff.1 (by simpa using hl)
    subst this
    exact .nil
  | x :: K, ids, hn, hs, hl => by
    have hx := hs x (by simp)
    have hp := List.perm_cons_erase hx
    refine hp.trans (List.Perm.cons x (perm_of_sub K (ids.erase x) (List.nodup_cons.1 hn).2 (fun y hy => ?_) ?_))
    · have hne : y ≠ x := fun e => (List.nodup_cons.1 hn).1 (e ▸ hy)
      exact (List.mem_erase_of_ne hne).2 (hs y (List.mem_cons_of_mem _ hy))
    · have h1 := List.length_erase_of_mem hx
      have h2 := List.length_pos_of_mem hx
      simp at hl
      omega
theorem met_of_perm : ∀ (ids K : List Int), ids.Perm K → MetP K ids
  | [], K, h => by
    have : K = [] := by simpa using h
    subst this
    exact ⟨fun j hj => by simp at hj, rfl⟩
  | x :: ids, K, h => by
    have h1 : ids.Perm (K.erase x) := by simpa using h.erase x
    obtain ⟨a, b⟩ := met_of_perm ids (K.erase x) h1
    refine ⟨fun j hj => ?_, b⟩
    cases j with
    | zero => exact h.subset (by simp)
    | succ j => exact a j (by simp at hj; omega)
theorem perm_of_met : ∀ (ids K : List Int), MetP K ids → ids.Perm K
  | [], K, h => by
    have : K = [] := h.2
    subst this
    exact .nil
  | x :: ids, K, h => by
    have hx : x ∈ K := h.1 0 (by simp)
    have h1 : MetP (K.erase x) ids := ⟨fun j hj => h.1 (j + 1) (by simp; omega), h.2⟩
    exact (List.Perm.cons x (perm_of_met ids _ h1)).trans (List.perm_cons_erase hx).symm

/-- no id twice -/
def Inj (E : List Ev) : Prop := ∀ a b, (ha : a < E.length) → (hb : b < E.length) → E[a].i = E[b].i → a = b
theorem ahead_lt {E : List Ev} (h : ∀ k, (hk : k < E.length) → ahead E k < E[k].i) : ∀ (d a : Nat) (hb : a + d + 1 < E.length), E[a].i < E[a + d + 1].i
  | 0, a, hb => by
    have h1 := h (a + 1) hb
    rwa [ahead_next (by omega)] at h1
  | d + 1, a, hb => by
    have h1 := ahead_lt h d a (by omega)
    have h2 := h (a + d + 2) (by omega)
    rw [ahead_next (by omega)] at h2
    exact Int.lt_trans h1 h2
theorem inj_of {E : List Ev} (h : ∀ k, (hk : k < E.length) → ahead E k < E[k].i) : Inj E := by
  intro a b ha hb e
  rcases Nat.lt_trichotomy a b with hl | hl | hl
  · obtain ⟨d, rfl⟩ : ∃ d, b = a + d + 1 := ⟨b - a - 1, by omega⟩
    have := ahead_lt h d a hb
    omega
  · exact hl
  · obtain ⟨d, rfl⟩ : ∃ d, a = b + d + 1 := ⟨a - b - 1, by omega⟩
    have := ahead_lt h d b ha
    omega
theorem fill_count (pr : Ev → Bool) {E : List Ev} (hi : Inj E) : ∀ j, j ≤ E.length → (fillK pr (E.take j)).length = (E.take j).countP pr
  | 0, _ => by simp [fillK]
  | j + 1, hj => by
    have hl : j < E.length := hj
    rw [fillK_snoc pr E j hl, cnt_next hl]
    have hno : E[j].i ∉ fillK pr (E.take j) := by
      intro hm
      obtain ⟨e, he, h1, h2⟩ := (fillK_mem pr _ _).1 hm
      obtain ⟨k, hk, rfl⟩ := List.mem_iff_getElem.1 he
      have hk2 : k < j := by simp at hk; omega
      rw [List.getElem_take] at h2
      have := hi k j (by omega) hl h2
      omega
    have ih := fill_count pr hi j (by omega)
    unfold stepK
    rw [if_neg hno]
    split
    · simp; omega
    · omega
theorem mem_fill (pr : Ev → Bool) {E : List Ev} (hi : Inj E) (e : Ev) (he : e ∈ E) : e.i ∈ fillK pr E ↔ pr e = true := by
  rw [fillK_mem]
  constructor
  · rintro ⟨x, hx, h1, h2⟩
    obtain ⟨a, ha, rfl⟩ := List.mem_iff_getElem.1 hx
    obtain ⟨b, hb, rfl⟩ := List.mem_iff_getElem.1 he
    have := hi a b ha hb h2
    subst this
    exact h1
  · exact fun h => ⟨e, he, h, rfl⟩
theorem met_to (pr : Ev → Bool) {E : List Ev} (hi : Inj E) {ids : List Int} (h : MetP (fillK pr E) ids) : ids.length = E.countP pr ∧ ∀ e ∈ E, pr e = hasB ids e.i := by
  have hp := perm_of_met ids _ h
  refine ⟨?_, fun e he => ?_⟩
  · rw [hp.length_eq]
    have := fill_count pr hi E.length (Nat.le_refl _)
    rwa [List.take_length] at this
  · have hc : ids.count e.i = (fillK pr E).count e.i := hp.count_eq _
    have hn := fillK_nodup pr E
    cases hb : pr e with
    | true =>
      have hm := (mem_fill pr hi e he).2 hb
      symm
      rw [hasB_yes, hc]
      have h1 := List.count_pos_iff.2 hm
      have h2 := List.nodup_iff_count.1 hn e.i
      omega
    | false =>
      have hm : e.i ∉ fillK pr E := fun hm => by rw [(mem_fill pr hi e he).1 hm] at hb; cases hb
      have h0 : ids.count e.i = 0 := by rw [hc]; exact List.count_eq_zero.2 hm
      unfold hasB
      simp [h0]
theorem met_from (pr : Ev → Bool) {E : List Ev} {ids : List Int} (hi : Inj E) (hl : ids.length = E.countP pr) (h : ∀ e ∈ E, pr e = true → hasB ids e.i = true) : MetP (fillK pr E) ids := by
  refine met_of_perm _ _ (perm_of_sub _ _ (fillK_nodup pr E) (fun x hx => ?_) ?_)
  · obtain ⟨e, he, h1, rfl⟩ := (fillK_mem pr _ _).1 hx
    have := hasB_yes.1 (h e he h1)
    exact List.count_pos_iff.1 (by omega)
  · have := fill_count pr hi E.length (Nat.le_refl _)
    rw [List.take_length] at this
    omega
theorem fly_count (d : Int) (E : List Ev) : E.countP (isFly d) = cntN d 1 E := by
  unfold cntN
  congr 1
  funext e
  unfold isFly isDS
  exact Bool.and_comm _ _
def inN (n : Nat) (e : Ev) : Bool := (e.s == 3) && decide (1 ≤ e.d ∧ e.d ≤ (n : Int))
theorem cnt_split (n : Nat) : ∀ E : List Ev, E.countP (inN (n + 1)) = E.countP (inN n) + cntN ((n : Int) + 1) 3 E
  | [] => rfl
  | e :: E => by
    have ih := cnt_split n E
    unfold cntN at *
    rw [List.countP_cons, List.countP_cons, List.countP_cons, ih]
    have h1 : (if inN (n + 1) e then 1 else 0) = (if inN n e then 1 else 0) + (if isDS ((n : Int) + 1) 3 e then 1 else 0) := by
      unfold inN isDS
      cases hs : (e.s == 3) with
      | false => simp
      | true =>
        by_cases hd : e.d = (n : Int) + 1
        · rw [decide_eq_true (show 1 ≤ e.d ∧ e.d ≤ ((n + 1 : Nat) : Int) by omega), decide_eq_false (show ¬ (1 ≤ e.d ∧ e.d ≤ (n : Int)) by omega), show (e.d == (n : Int) + 1) = true by simp [hd]]
          rfl
        · rw [show (e.d == (n : Int) + 1) = false by simp [hd]]
          by_cases hn : 1 ≤ e.d ∧ e.d ≤ (n : Int)
          · rw [decide_eq_true (show 1 ≤ e.d ∧ e.d ≤ ((n + 1 : Nat) : Int) by omega), decide_eq_true hn]
            rfl
          · rw [decide_eq_false (show ¬ (1 ≤ e.d ∧ e.d ≤ ((n + 1 : Nat) : Int)) by omega), decide_eq_false hn]
            rfl
    omega
theorem dead_in (E : List Ev) : ∀ n : Nat, deadN E n = E.countP (inN n)
  | 0 => by
    symm
    refine List.countP_eq_zero.2 (fun e _ => ?_)
    unfold inN
    rw [decide_eq_false (show ¬ (1 ≤ e.d ∧ e.d ≤ ((0 : Nat) : Int)) by omega)]
    simp
  | n + 1 => by
    rw [cnt_split, ← dead_in E n]
    rfl
theorem dead_count {E : List Ev} {de : Int} (hd : 0 ≤ de) (h : ∀ e ∈ E, 1 ≤ e.d ∧ e.d ≤ de) : E.countP isDead = deadN E de.toNat := by
  rw [dead_in]
  refine List.countP_congr (fun e he => ?_)
  have h1 := h e he
  unfold inN isDead
  rw [decide_eq_true (show 1 ≤ e.d ∧ e.d ≤ (de.toNat : Int) by omega)]
  simp
theorem over_at {K : List Lk} {d : Int} {m : Nat} (hm : m < K.length) (hd : d = (m : Int) + 1) : overL K d = idsL K[m].l := by
  unfold overL
  rw [show (d - 1).toNat = m by omega, List.getD_eq_getElem?_getD, List.getElem?_eq_getElem hm]
  rfl
theorem fly_is {d : Int} {e : Ev} (h : e.d = d) : isFly d e = (e.s == 1) := by
  unfold isFly
  simp [h]

theorem gate_iff {de qu wi ti qa bu le pb pc pj pt nw la : Int} {en kn : Nat} {tu : Int} {fn rn : Nat} {tk ac dr : Int} {E : List Ev} {K : List Lk} {F R : List Int}
    (hE : E.length = en) (hK : K.length = kn) (hF : F.length = fn) (hR : R.length = rn) :
    gateP de qu wi ti qa bu le pb pc pj pt nw la en kn tu fn rn tk ac dr E K F R ↔ specP de qu wi ti qa bu le pb pc pj pt nw la en kn tu fn rn tk ac dr E K F R := by
  constructor
  · rintro ⟨hcf, hnw, hla, ⟨hen, hev⟩, hqu, ⟨hkd, hli⟩, ⟨ht0, ht1, hfd, hfs⟩, ⟨hrl, hmet⟩, hto⟩
    have hi : Inj E := inj_of (fun k hk => (hev k hk).2.1)
    have hdd : ∀ e ∈ E, 1 ≤ e.d ∧ e.d ≤ de := fun e he => by
      obtain ⟨k, hk, rfl⟩ := List.mem_iff_getElem.1 he
      have h1 := (hev k hk).1
      have h2 := (hev k hk).2.2.2.1
      unfold Evt.EOk at h1
      omega
    have hdead := met_to isDead hi hmet
    refine ⟨hcf, hnw, hla, ⟨hkd, hfd, fun k hk hk2 => ⟨(hli k hk).1, (hli k hk).2.1, hfs _ (List.getElem_mem _), hqu k (by omega), ?_⟩⟩, ⟨hen, fun k hk => ⟨hev k hk, ?_, hdead.2 _ (List.getElem_mem _)⟩⟩, ⟨ht0, by omega⟩, ⟨hrl, ?_⟩, hto⟩
    · have h1 := (met_to _ hi (hli k hk).2.2).1
      rw [fly_count] at h1
      unfold idsL at h1
      rwa [List.length_map] at h1
    · have h1 := hdd _ (List.getElem_mem hk)
      obtain ⟨m, hm⟩ : ∃ m : Nat, E[k].d = (m : Int) + 1 := ⟨(E[k].d - 1).toNat, by omega⟩
      have hmk : m < K.length := by omega
      rw [over_at hmk hm, ← fly_is hm]
      exact (met_to _ hi (hli m hmk).2.2).2 _ (List.getElem_mem hk)
    · rw [← hR, hdead.1]
      exact dead_count (by omega) hdd
  · rintro ⟨hcf, hnw, hla, ⟨hkd, hfd, hlk⟩, ⟨hen, hse⟩, ⟨ht0, ht1⟩, ⟨hrl, hrn⟩, hto⟩
    have hi : Inj E := inj_of (fun k hk => (hse k hk).1.2.1)
    have hdd : ∀ e ∈ E, 1 ≤ e.d ∧ e.d ≤ de := fun e he => by
      obtain ⟨k, hk, rfl⟩ := List.mem_iff_getElem.1 he
      have h1 := (hse k hk).1.1
      have h2 := (hse k hk).1.2.2.2.1
      unfold Evt.EOk at h1
      omega
    refine ⟨hcf, hnw, hla, ⟨hen, fun k hk => (hse k hk).1⟩, fun k hk => ?_, ⟨hkd, fun k hk => ?_⟩, ⟨ht0, by omega, hfd, fun x hx => ?_⟩, ⟨hrl, ?_⟩, hto⟩
    · exact (hlk k (by omega) (by omega)).2.2.2.1
    · have hk2 : k < F.length := by omega
      obtain ⟨h1, h2, h3, h4, h5⟩ := hlk k hk hk2
      refine ⟨h1, h2, met_from _ hi ?_ (fun e he hp => ?_)⟩
      · rw [fly_count]
        unfold idsL
        rwa [List.length_map]
      · obtain ⟨a, ha, rfl⟩ := List.mem_iff_getElem.1 he
        have hs : E[a].s = 1 ∧ E[a].d = (k : Int) + 1 := by
          unfold isFly at hp
          simpa using hp
        have h6 := (hse a ha).2.1
        rw [over_at hk hs.2] at h6
        rw [← h6]
        simp [hs.1]
    · obtain ⟨k, hk, rfl⟩ := List.mem_iff_getElem.1 hx
      exact (hlk k (by omega) hk).2.2.1
    · refine met_from _ hi ?_ (fun e he hp => ?_)
      · rw [hR, hrn]
        exact (dead_count (by omega) hdd).symm
      · obtain ⟨a, ha, rfl⟩ := List.mem_iff_getElem.1 he
        rw [← (hse a ha).2.2]
        exact hp
end Go.Proofs.Ytecfomaapomncaa.Gat
