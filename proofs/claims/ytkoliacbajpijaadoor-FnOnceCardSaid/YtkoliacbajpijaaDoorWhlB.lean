/-
  Plain facts on lists of timers. No Go in sight.
-/
import Derived.Test.YtkoliacbajpijaaDoorWhlA
namespace Go.Proofs.YtkoliacbajpijaaDoor.Whl
set_option linter.unusedVariables false

abbrev T := Int × Int
def ahd (a b : T) : Prop := a.1 < b.1 ∨ a.1 = b.1 ∧ a.2 < b.2
instance (a b : T) : Decidable (ahd a b) := by unfold ahd; infer_instance
theorem ahd_irrefl (a : T) : ¬ ahd a a := by unfold ahd; omega
theorem ahd_trans {a b c : T} (h : ahd a b) (h' : ahd b c) : ahd a c := by unfold ahd at *; omega
theorem ahd_asymm {a b : T} (h : ahd a b) : ¬ ahd b a := by unfold ahd at *; omega
theorem ahd_total {a b : T} (h : a ≠ b) : ahd a b ∨ ahd b a := by
  have : a.1 ≠ b.1 ∨ a.2 ≠ b.2 := by
    by_cases h1 : a.1 = b.1
    · right; intro h2; exact h (Prod.ext h1 h2)
    · exact Or.inl h1
  unfold ahd; omega
def Srt (l : List T) : Prop := l.Pairwise ahd
theorem srt_unique : ∀ {l m : List T}, Srt l → Srt m → (∀ x, x ∈ l ↔ x ∈ m) → l = m
  | [], [], _, _, _ => rfl
  | [], y :: m, _, _, h => by have := (h y).2 (by simp); simp at this
  | x :: l, [], _, _, h => by have := (h x).1 (by simp); simp at this
  | x :: l, y :: m, hl, hm, h => by
    unfold Srt at hl hm
    rw [List.pairwise_cons] at hl hm
    have hxy : x = y := by
      by_cases e : x = y
      · exact e
      · have h1 : y ∈ l := by
          have := (h y).2 (by simp)
          rcases List.mem_cons.1 this with r | r
          · exact absurd r.symm e
          · exact r
        have h2 : x ∈ m := by
          have := (h x).1 (by simp)
          rcases List.mem_cons.1 this with r | r
          · exact absurd r e
          · exact r
        exact absurd (hl.1 y h1) (ahd_asymm (hm.1 x h2))
    subst hxy
    rw [srt_unique (l := l) (m := m) hl.2 hm.2 (fun z => ?_)]
    constructor
    · intro hz
      rcases List.mem_cons.1 ((h z).1 (List.mem_cons_of_mem _ hz)) with r | r
      · subst r; exact absurd (hl.1 z hz) (ahd_irrefl z)
      · exact r
    · intro hz
      rcases List.mem_cons.1 ((h z).2 (List.mem_cons_of_mem _ hz)) with r | r
      · subst r; exact absurd (hm.1 z hz) (ahd_irrefl z)
      · exact r

def tOk (now : Int) (t : T) : Prop := now < t.1 ∧ t.1 ≤ 1000000000 ∧ 1 ≤ t.2 ∧ t.2 ≤ 9999
instance (now : Int) (t : T) : Decidable (tOk now t) := by unfold tOk; infer_instance
/-- what the j-th timer of a right wheel is held to -/
def stepOk (now : Int) (l : List T) (j : Nat) : Prop :=
  tOk now (l.getD j (0, 0)) ∧ (0 < j → ahd (l.getD (j - 1) (0, 0)) (l.getD j (0, 0))) ∧ ∀ k, k < j → (l.getD k (0, 0)).2 ≠ (l.getD j (0, 0)).2
structure WOk (now : Int) (l : List T) : Prop where
  n0 : 0 ≤ now
  n1 : now ≤ 1000000000
  len : l.length ≤ 60
  each : ∀ t ∈ l, tOk now t
  srt : Srt l
  ids : (l.map Prod.snd).Nodup

theorem srt_of_steps (l : List T) (h : ∀ j, 0 < j → j < l.length → ahd (l.getD (j - 1) (0, 0)) (l.getD j (0, 0))) : Srt l := by
  unfold Srt
  rw [List.pairwise_iff_getElem]
  intro i j hi hj hij
  induction j with
  | zero => omega
  | succ j ih =>
    have h1 := h (j + 1) (by omega) hj
    simp only [List.getD_eq_getElem?_getD, Nat.add_sub_cancel, List.getElem?_eq_getElem hj, List.getElem?_eq_getElem (show j < l.length by omega), Option.getD_some] at h1
    by_cases e : i = j
    · subst e; exact h1
    · exact ahd_trans (ih (by omega) (by omega)) h1
theorem wok_iff (now : Int) (l : List T) : WOk now l ↔ 0 ≤ now ∧ now ≤ 1000000000 ∧ l.length ≤ 60 ∧ ∀ j, j < l.length → stepOk now l j := by
  have gd : ∀ j (h : j < l.length), l.getD j (0, 0) = l[j] := fun j h => by simp [List.getD_eq_getElem?_getD, List.getElem?_eq_getElem h]
  constructor
  · rintro ⟨n0, n1, len, each, srt, ids⟩
    refine ⟨n0, n1, len, fun j hj => ⟨by rw [gd j hj]; exact each _ (List.getElem_mem hj), fun h0 => ?_, fun k hk => ?_⟩⟩
    · rw [gd j hj, gd (j - 1) (by omega)]
      exact (List.pairwise_iff_getElem.1 srt) _ _ _ _ (by omega)
    · rw [gd j hj, gd k (by omega)]
      have := List.pairwise_iff_getElem.1 ids k j (by simp; omega) (by simp; omega) hk
      simpa using this
  · rintro ⟨n0, n1, len, h⟩
    refine ⟨n0, n1, len, fun t ht => ?_, srt_of_steps l (fun j h0 hj => (h j hj).2.1 h0), ?_⟩
    · obtain ⟨j, hj, rfl⟩ := List.getElem_of_mem ht
      have := (h j hj).1
      rwa [gd j hj] at this
    · unfold List.Nodup
      rw [List.pairwise_iff_getElem]
      intro i j hi hj hij
      simp at hi hj
      have := (h j hj).2.2 i hij
      rw [gd j hj, gd i hi] at this
      simpa using this
open Classical in
noncomputable def wokB (now : Int) (l : List T) : Bool := decide (WOk now l)
theorem wokB_true {now : Int} {l : List T} (h : WOk now l) : wokB now l = true := by unfold wokB; simp [h]
theorem wokB_false {now : Int} {l : List T} (h : ¬ WOk now l) : wokB now l = false := by unfold wokB; simp [h]

theorem getD_at {l : List T} {k : Nat} (h : k < l.length) : l.getD k (0, 0) = l[k] := by simp [List.getD_eq_getElem?_getD, List.getElem?_eq_getElem h]
theorem wok_not {now : Int} {l : List T} {k : Nat} (hk : k < l.length) (h : ¬ stepOk now l k) : wokB now l = false :=
  wokB_false (fun hw => h (((wok_iff now l).1 hw).2.2.2 k hk))
theorem seen_iff {l : List T} {k : Nat} (hk : k < l.length) (y : Int) : y ∈ (l.take k).map Prod.snd ↔ ∃ j, j < k ∧ (l.getD j (0, 0)).2 = y := by
  constructor
  · intro h
    obtain ⟨t, ht, rfl⟩ := List.mem_map.1 h
    obtain ⟨j, hj, rfl⟩ := List.getElem_of_mem ht
    have hj' : j < k := by simp at hj; omega
    exact ⟨j, hj', by rw [getD_at (by omega), List.getElem_take]⟩
  · rintro ⟨j, hj, rfl⟩
    rw [getD_at (by omega)]
    refine List.mem_map.2 ⟨l[j], ?_, rfl⟩
    have : (l.take k)[j]'(by simp; omega) = l[j] := List.getElem_take
    rw [← this]
    exact List.getElem_mem _
theorem step_of {now : Int} {l : List T} {k : Nat} {x y : Int} (hk : k < l.length) (e : l.getD k (0, 0) = (x, y)) (h1 : tOk now (x, y)) (h2 : 0 < k → ahd (l.getD (k - 1) (0, 0)) (x, y)) (h3 : ¬ y ∈ (l.take k).map Prod.snd) : stepOk now l k := by
  refine ⟨by rw [e]; exact h1, fun h0 => by rw [e]; exact h2 h0, fun j hj hc => h3 ((seen_iff hk y).2 ⟨j, hj, by rw [hc, e]⟩)⟩
theorem step_tok {now : Int} {l : List T} {k : Nat} {x y : Int} (e : l.getD k (0, 0) = (x, y)) (h : stepOk now l k) : tOk now (x, y) := e ▸ h.1
theorem step_new {now : Int} {l : List T} {k : Nat} {x y : Int} (hk : k < l.length) (e : l.getD k (0, 0) = (x, y)) (h : stepOk now l k) : ¬ y ∈ (l.take k).map Prod.snd := by
  intro hm
  obtain ⟨j, hj, hy⟩ := (seen_iff hk y).1 hm
  exact h.2.2 j hj (by rw [hy, e])
theorem step_ahd {now : Int} {l : List T} {k : Nat} {x y : Int} (e : l.getD k (0, 0) = (x, y)) (h : stepOk now l k) (h0 : 0 < k) : ahd (l.getD (k - 1) (0, 0)) (x, y) := e ▸ h.2.1 h0
theorem take_ids {l : List T} {k : Nat} {x y : Int} (hk : k < l.length) (e : l.getD k (0, 0) = (x, y)) : (l.take (k + 1)).map Prod.snd = (l.take k).map Prod.snd ++ [y] := by
  rw [List.take_succ_eq_append_getElem hk, ← getD_at hk, e]; simp

def dropL (l : List T) (id : Int) : List T := l.filter fun t => decide (t.2 ≠ id)
theorem dropL_mem {l : List T} {id : Int} {t : T} : t ∈ dropL l id ↔ t ∈ l ∧ t.2 ≠ id := by simp [dropL]
theorem WOk.drop {now : Int} {l : List T} (h : WOk now l) (id : Int) : WOk now (dropL l id) where
  n0 := h.n0
  n1 := h.n1
  len := Nat.le_trans (List.length_filter_le _ _) h.len
  each := fun t ht => h.each t (dropL_mem.1 ht).1
  srt := h.srt.filter _
  ids := h.ids.sublist (List.filter_sublist.map _)
/-- how many stand ahead of t -/
def posL (l : List T) (t : T) : Nat := (l.takeWhile fun x => decide (ahd x t)).length
def setL (l : List T) (t : T) : List T := (dropL l t.2).take (posL (dropL l t.2) t) ++ t :: (dropL l t.2).drop (posL (dropL l t.2) t)
theorem posL_le (l : List T) (t : T) : posL l t ≤ l.length := by
  unfold posL; exact (List.takeWhile_sublist _).length_le
theorem posL_ahd : ∀ (l : List T) (t : T) (j : Nat) (h : j < l.length), j < posL l t → ahd l[j] t
  | [], t, j, h, _ => by simp at h
  | x :: l, t, j, h, hj => by
    by_cases hx : ahd x t
    · have e : posL (x :: l) t = posL l t + 1 := by simp [posL, hx]
      cases j with
      | zero => exact hx
      | succ j => exact posL_ahd l t j (by simpa using h) (by omega)
    · have e : posL (x :: l) t = 0 := by simp [posL, hx]
      omega
theorem posL_stop : ∀ (l : List T) (t : T) (h : posL l t < l.length), ¬ ahd l[posL l t] t
  | [], t, h => by simp at h
  | x :: l, t, h => by
    by_cases hx : ahd x t
    · have e : posL (x :: l) t = posL l t + 1 := by simp [posL, hx]
      simp only [e, List.getElem_cons_succ]
      exact posL_stop l t (by rw [e] at h; simpa using h)
    · have e : posL (x :: l) t = 0 := by simp [posL, hx]
      simp only [e, List.getElem_cons_zero]
      exact hx
theorem posL_of (l : List T) (t : T) (i : Nat) (hi : i ≤ l.length) (h1 : ∀ j (h : j < l.length), j < i → ahd l[j] t) (h2 : ∀ h : i < l.length, ¬ ahd l[i] t) : i = posL l t := by
  rcases Nat.lt_trichotomy i (posL l t) with h | h | h
  · have := posL_le l t
    exact absurd (posL_ahd l t i (by omega) h) (h2 (by omega))
  · exact h
  · exact absurd (h1 (posL l t) (by omega) h) (posL_stop l t (by omega))
theorem setL_mem {l : List T} {t x : T} : x ∈ setL l t ↔ x = t ∨ (x ∈ l ∧ x.2 ≠ t.2) := by
  have e : (dropL l t.2).take (posL (dropL l t.2) t) ++ (dropL l t.2).drop (posL (dropL l t.2) t) = dropL l t.2 := List.take_append_drop _ _
  have : x ∈ setL l t ↔ x = t ∨ x ∈ (dropL l t.2).take (posL (dropL l t.2) t) ++ (dropL l t.2).drop (posL (dropL l t.2) t) := by
    unfold setL
    simp only [List.mem_append, List.mem_cons]
    constructor
    · rintro (h | h | h)
      · exact .inr (.inl h)
      · exact .inl h
      · exact .inr (.inr h)
    · rintro (h | h | h)
      · exact .inr (.inl h)
      · exact .inl h
      · exact .inr (.inr h)
  rw [this, e, dropL_mem]
theorem setL_len (l : List T) (t : T) : (setL l t).length = (dropL l t.2).length + 1 := by
  have h := posL_le (dropL l t.2) t
  unfold setL; simp; omega
theorem setL_srt {l : List T} {t : T} (h : Srt l) : Srt (setL l t) := by
  have hd : Srt (dropL l t.2) := h.filter _
  have hne : ∀ x ∈ dropL l t.2, x ≠ t := fun x hx e => by subst e; exact (dropL_mem.1 hx).2 rfl
  unfold setL
  generalize dropL l t.2 = m at *
  have e := List.take_append_drop (posL m t) m
  unfold Srt at *
  rw [List.pairwise_append, List.pairwise_cons]
  have hsplit := hd
  rw [← e, List.pairwise_append] at hsplit
  have hlt : ∀ x ∈ m.take (posL m t), ahd x t := by
    intro x hx
    obtain ⟨j, hj, rfl⟩ := List.getElem_of_mem hx
    simp at hj
    rw [List.getElem_take]
    exact posL_ahd m t j (by omega) (by omega)
  have hgt : ∀ x ∈ m.drop (posL m t), ahd t x := by
    intro x hx
    obtain ⟨j, hj, rfl⟩ := List.getElem_of_mem hx
    simp at hj
    rw [List.getElem_drop]
    have hs := posL_stop m t (by omega)
    have hn := hne m[posL m t] (List.getElem_mem _)
    have h1 : ahd t m[posL m t] := by
      rcases ahd_total hn with r | r
      · exact absurd r hs
      · exact r
    by_cases hj0 : j = 0
    · subst hj0; simpa using h1
    · exact ahd_trans h1 (List.pairwise_iff_getElem.1 hd _ _ _ _ (by omega))
  refine ⟨hsplit.1, ⟨hgt, hsplit.2.1⟩, fun a ha b hb => ?_⟩
  rcases List.mem_cons.1 hb with r | r
  · subst r; exact hlt a ha
  · exact ahd_trans (hlt a ha) (hgt b r)
theorem setL_ids {l : List T} {t : T} (h : (l.map Prod.snd).Nodup) : ((setL l t).map Prod.snd).Nodup := by
  have hp : (setL l t).Perm (t :: dropL l t.2) := by
    unfold setL
    exact List.perm_middle.trans (by rw [List.take_append_drop])
  rw [(hp.map Prod.snd).nodup_iff, List.map_cons, List.nodup_cons]
  refine ⟨fun hm => ?_, h.sublist (List.filter_sublist.map _)⟩
  obtain ⟨x, hx, hxe⟩ := List.mem_map.1 hm
  exact (dropL_mem.1 hx).2 hxe
theorem WOk.set_iff {now : Int} {l : List T} (h : WOk now l) (t : T) : WOk now (setL l t) ↔ tOk now t ∧ (dropL l t.2).length + 1 ≤ 60 := by
  constructor
  · intro hs
    refine ⟨hs.each t (setL_mem.2 (.inl rfl)), ?_⟩
    have := hs.len
    rwa [setL_len] at this
  · rintro ⟨h1, h2⟩
    exact ⟨h.n0, h.n1, by rw [setL_len]; exact h2, fun x hx => (setL_mem.1 hx).elim (fun e => e ▸ h1) (fun r => h.each x r.1), setL_srt h.srt, setL_ids h.ids⟩

def restL (l : List T) (to : Int) : List T := l.filter fun t => decide (to < t.1)
def dueL (l : List T) (to : Int) : List T := l.filter fun t => decide (t.1 ≤ to)
theorem WOk.rest {now to : Int} {l : List T} (h : WOk now l) (hn : now ≤ to) (h1 : to ≤ 1000000000) : WOk to (restL l to) where
  n0 := by have := h.n0; omega
  n1 := h1
  len := Nat.le_trans (List.length_filter_le _ _) h.len
  each := fun t ht => by
    have := List.mem_filter.1 ht
    have h2 := h.each t this.1
    unfold tOk at *
    simp at this
    omega
  srt := h.srt.filter _
  ids := h.ids.sublist (List.filter_sublist.map _)
end Go.Proofs.YtkoliacbajpijaaDoor.Whl
