/-
  A right link, and what is done to one, as plain lists. No Go in sight.
-/
namespace Go.Proofs.Ytecfomaapomncaa.Lnk
set_option linter.unusedVariables false

/-- a fly that is right by itself -/
def fOk (t : Int × Int × Int) : Prop := 1 ≤ t.2.1 ∧ t.2.1 ≤ 9999 ∧ 0 ≤ t.2.2 ∧ t.2.2 ≤ 2000000000
instance (t : Int × Int × Int) : Decidable (fOk t) := by unfold fOk; infer_instance
/-- the number ahead of the k-th -/
def lastS (l : List (Int × Int × Int)) (k : Nat) : Int := match k with | 0 => 0 | k + 1 => (l.getD k (0, 0, 0)).1
/-- what the k-th is held to -/
def stepOk (sq : Int) (l : List (Int × Int × Int)) (k : Nat) : Prop :=
  lastS l k < (l.getD k (0, 0, 0)).1 ∧ (l.getD k (0, 0, 0)).1 ≤ sq ∧ fOk (l.getD k (0, 0, 0)) ∧ ¬ (l.getD k (0, 0, 0)).2.1 ∈ (l.take k).map (fun t => t.2.1)
structure LOk (up : Bool) (ep sq : Int) (l : List (Int × Int × Int)) : Prop where
  e0 : 0 ≤ ep
  e1 : ep ≤ 60000
  s0 : 0 ≤ sq
  s1 : sq ≤ 60000
  len : l.length ≤ 8
  hup : 0 < l.length → up = true
  pw : l.Pairwise fun a b => a.1 < b.1 ∧ a.2.1 ≠ b.2.1
  rng : ∀ t ∈ l, 0 < t.1 ∧ t.1 ≤ sq ∧ fOk t

theorem getD_at {l : List (Int × Int × Int)} {k : Nat} (h : k < l.length) : l.getD k (0, 0, 0) = l[k] := by simp [List.getD_eq_getElem?_getD, List.getElem?_eq_getElem h]
theorem seen_iff {l : List (Int × Int × Int)} {k : Nat} (hk : k < l.length) (y : Int) : y ∈ (l.take k).map (fun t => t.2.1) ↔ ∃ j, j < k ∧ (l.getD j (0, 0, 0)).2.1 = y := by
  constructor
  · intro h
    obtain ⟨t, ht, rfl⟩ := List.mem_map.1 h
    obtain ⟨j, hj, rfl⟩ := List.getElem_of_mem ht
    have hj' : j < k := by simp at hj; omega
    exact ⟨j, hj', by rw [getD_at (by omega), List.getElem_take]⟩
  · rintro ⟨j, hj, rfl⟩
    rw [getD_at (by omega)]
    refine List.mem_map.2 ⟨l[j], ?_, rfl⟩
    have : (l.take k)[j]'(by simp; omega) = l[j] := List.getElem_take
    rw [← this]
    exact List.getElem_mem _
theorem lok_iff (up : Bool) (ep sq : Int) (l : List (Int × Int × Int)) : LOk up ep sq l ↔ (0 ≤ ep ∧ ep ≤ 60000 ∧ 0 ≤ sq ∧ sq ≤ 60000 ∧ l.length ≤ 8 ∧ (0 < l.length → up = true)) ∧ ∀ j, j < l.length → stepOk sq l j := by
  constructor
  · intro h
    refine ⟨⟨h.e0, h.e1, h.s0, h.s1, h.len, h.hup⟩, fun j hj => ?_⟩
    have hr := h.rng l[j] (List.getElem_mem hj)
    unfold stepOk
    rw [getD_at hj]
    refine ⟨?_, hr.2.1, hr.2.2, fun hm => ?_⟩
    · cases j with
      | zero => exact hr.1
      | succ j =>
        show (l.getD j (0, 0, 0)).1 < _
        rw [getD_at (by omega)]
        exact (List.pairwise_iff_getElem.1 h.pw j (j + 1) (by omega) hj (by omega)).1
    · obtain ⟨i, hi, he⟩ := (seen_iff hj _).1 hm
      rw [getD_at (by omega)] at he
      exact (List.pairwise_iff_getElem.1 h.pw i j (by omega) hj hi).2 he
  · rintro ⟨⟨e0, e1, s0, s1, len, hup⟩, h⟩
    have hpos : ∀ j (hj : j < l.length), 0 < l[j].1 := by
      intro j
      induction j with
      | zero => intro hj; have h1 := (h 0 hj).1; rw [getD_at hj] at h1; exact h1
      | succ j ih =>
        intro hj
        have h1 : (l.getD j (0, 0, 0)).1 < (l.getD (j + 1) (0, 0, 0)).1 := (h (j + 1) hj).1
        rw [getD_at hj, getD_at (by omega)] at h1
        have := ih (by omega)
        omega
    refine ⟨e0, e1, s0, s1, len, hup, ?_, fun t ht => ?_⟩
    · rw [List.pairwise_iff_getElem]
      intro i j hi hj hij
      constructor
      · clear hpos
        induction j with
        | zero => omega
        | succ j ih =>
          have h1 : (l.getD j (0, 0, 0)).1 < (l.getD (j + 1) (0, 0, 0)).1 := (h (j + 1) hj).1
          rw [getD_at hj, getD_at (by omega)] at h1
          by_cases e : i = j
          · subst e; exact h1
          · exact Int.lt_trans (ih (by omega) (by omega)) h1
      · intro he
        refine (h j hj).2.2.2 ((seen_iff hj _).2 ⟨i, hij, ?_⟩)
        rw [getD_at hi, getD_at hj]
        exact he
    · obtain ⟨j, hj, rfl⟩ := List.getElem_of_mem ht
      have h1 := h j hj
      unfold stepOk at h1
      rw [getD_at hj] at h1
      exact ⟨hpos j hj, h1.2.1, h1.2.2.1⟩
open Classical in
noncomputable def lokB (up : Bool) (ep sq : Int) (l : List (Int × Int × Int)) : Bool := decide (LOk up ep sq l)
section
variable {up : Bool} {ep sq : Int} {l : List (Int × Int × Int)}
theorem lokB_true (h : LOk up ep sq l) : lokB up ep sq l = true := by unfold lokB; simp [h]
theorem lokB_false (h : ¬ LOk up ep sq l) : lokB up ep sq l = false := by unfold lokB; simp [h]
theorem lokB_iff : lokB up ep sq l = true ↔ LOk up ep sq l := by unfold lokB; simp
theorem lok_not {k : Nat} (hk : k < l.length) (h : ¬ stepOk sq l k) : lokB up ep sq l = false :=
  lokB_false (fun hw => h (((lok_iff up ep sq l).1 hw).2 k hk))
theorem step_of {k : Nat} {x y z p : Int} (e : l.getD k (0, 0, 0) = (x, y, z)) (hp : lastS l k = p) (h0 : p < x) (h1 : x ≤ sq) (h2 : fOk (x, y, z)) (h3 : ¬ y ∈ (l.take k).map (fun t => t.2.1)) : stepOk sq l k := by
  unfold stepOk
  rw [e, hp]
  exact ⟨h0, h1, h2, h3⟩
theorem step_at {k : Nat} {x y z p : Int} (e : l.getD k (0, 0, 0) = (x, y, z)) (hp : lastS l k = p) (h : stepOk sq l k) : p < x ∧ x ≤ sq ∧ fOk (x, y, z) ∧ ¬ y ∈ (l.take k).map (fun t => t.2.1) := by
  unfold stepOk at h
  rw [e, hp] at h
  exact h
theorem last_next {k : Nat} {x y z : Int} (e : l.getD k (0, 0, 0) = (x, y, z)) : lastS l (k + 1) = x := by
  show (l.getD k (0, 0, 0)).1 = x
  rw [e]
theorem take_ids {k : Nat} {x y z : Int} (hk : k < l.length) (e : l.getD k (0, 0, 0) = (x, y, z)) : (l.take (k + 1)).map (fun t => t.2.1) = (l.take k).map (fun t => t.2.1) ++ [y] := by
  rw [List.take_succ_eq_append_getElem hk, ← getD_at hk, e]; simp
theorem LOk.sub {m : List (Int × Int × Int)} (h : LOk up ep sq l) (hs : m.Sublist l) : LOk up ep sq m :=
  ⟨h.e0, h.e1, h.s0, h.s1, Nat.le_trans hs.length_le h.len, fun h0 => h.hup (Nat.lt_of_lt_of_le h0 hs.length_le), h.pw.sublist hs, fun t ht => h.rng t (hs.subset ht)⟩
end
/-- who stays, and who leaves -/
def stayL (p : Int × Int × Int → Bool) (l : List (Int × Int × Int)) : List (Int × Int × Int) := l.filter fun t => !p t
def goneL (p : Int × Int × Int → Bool) (l : List (Int × Int × Int)) : List (Int × Int × Int) := l.filter p
def idsL (l : List (Int × Int × Int)) : List Int := l.map fun t => t.2.1
theorem stayL_sub (p : Int × Int × Int → Bool) (l : List (Int × Int × Int)) : (stayL p l).Sublist l := List.filter_sublist
theorem goneL_sub (p : Int × Int × Int → Bool) (l : List (Int × Int × Int)) : (goneL p l).Sublist l := List.filter_sublist
theorem stayL_len (p : Int × Int × Int → Bool) (l : List (Int × Int × Int)) : (stayL p l).length ≤ l.length := (stayL_sub p l).length_le
theorem goneL_len (p : Int × Int × Int → Bool) (l : List (Int × Int × Int)) : (goneL p l).length ≤ l.length := (goneL_sub p l).length_le
theorem part_len (p : Int × Int × Int → Bool) : ∀ l : List (Int × Int × Int), (stayL p l).length + (goneL p l).length = l.length
  | [] => rfl
  | t :: l => by
    have ih := part_len p l
    unfold stayL goneL at *
    by_cases h : p t = true
    · rw [List.filter_cons_of_neg (by simp [h]), List.filter_cons_of_pos h, List.length_cons, List.length_cons]; omega
    · rw [List.filter_cons_of_pos (by simp [h]), List.filter_cons_of_neg h, List.length_cons, List.length_cons]; omega
theorem stayL_step_yes {p : Int × Int × Int → Bool} {l : List (Int × Int × Int)} {k : Nat} (hk : k < l.length) (h : p l[k] = true) : stayL p (l.take (k + 1)) = stayL p (l.take k) ∧ goneL p (l.take (k + 1)) = goneL p (l.take k) ++ [l[k]] := by
  rw [List.take_succ_eq_append_getElem hk]
  generalize l.take k = m
  generalize l[k] = t at h
  unfold stayL goneL
  simp [List.filter_append, h]
theorem stayL_step_no {p : Int × Int × Int → Bool} {l : List (Int × Int × Int)} {k : Nat} (hk : k < l.length) (h : p l[k] = false) : stayL p (l.take (k + 1)) = stayL p (l.take k) ++ [l[k]] ∧ goneL p (l.take (k + 1)) = goneL p (l.take k) := by
  rw [List.take_succ_eq_append_getElem hk]
  generalize l.take k = m
  generalize l[k] = t at h
  unfold stayL goneL
  simp [List.filter_append, h]
def isS (seq : Int) (t : Int × Int × Int) : Bool := decide (t.1 = seq)
def isI (id : Int) (t : Int × Int × Int) : Bool := decide (t.2.1 = id)
def isU (now : Int) (t : Int × Int × Int) : Bool := decide (t.2.2 ≤ now)

/-- Launch -/
noncomputable def lauB (up : Bool) (ep sq : Int) (l : List (Int × Int × Int)) (id un : Int) : Bool := lokB up ep sq l && lokB up ep (sq + 1) (l ++ [(sq + 1, id, un)])
noncomputable def lauS (up : Bool) (ep sq : Int) (l : List (Int × Int × Int)) (id un : Int) : Int := if lauB up ep sq l id un then sq + 1 else sq
noncomputable def lauL (up : Bool) (ep sq : Int) (l : List (Int × Int × Int)) (id un : Int) : List (Int × Int × Int) := if lauB up ep sq l id un then l ++ [(sq + 1, id, un)] else l
noncomputable def lauN (up : Bool) (ep sq : Int) (l : List (Int × Int × Int)) (id un : Int) : Int := if lauB up ep sq l id un then sq + 1 else 0
/-- Answer -/
noncomputable def ansB (up : Bool) (ep sq : Int) (l : List (Int × Int × Int)) (e : Int) : Bool := lokB up ep sq l && decide (e = ep)
noncomputable def ansL (up : Bool) (ep sq : Int) (l : List (Int × Int × Int)) (e seq : Int) : List (Int × Int × Int) := if ansB up ep sq l e then stayL (isS seq) l else l
def idOf (l : List (Int × Int × Int)) (seq : Int) : Int := ((goneL (isS seq) l).map fun t => t.2.1).headD 0
noncomputable def ansI (up : Bool) (ep sq : Int) (l : List (Int × Int × Int)) (e seq : Int) : Int := if ansB up ep sq l e then idOf l seq else 0
/-- Forget -/
noncomputable def fgtL (up : Bool) (ep sq : Int) (l : List (Int × Int × Int)) (id : Int) : List (Int × Int × Int) := if lokB up ep sq l then stayL (isI id) l else l
/-- Late -/
noncomputable def latL (up : Bool) (ep sq : Int) (l : List (Int × Int × Int)) (now : Int) : List (Int × Int × Int) := if lokB up ep sq l then stayL (isU now) l else l
noncomputable def latI (up : Bool) (ep sq : Int) (l : List (Int × Int × Int)) (now : Int) : List Int := if lokB up ep sq l then idsL (goneL (isU now) l) else []
/-- Join, Leave -/
noncomputable def joiB (up : Bool) (ep sq : Int) (l : List (Int × Int × Int)) : Bool := lokB up ep sq l && decide (ep ≠ 60000)
noncomputable def joU (up : Bool) (ep sq : Int) (l : List (Int × Int × Int)) : Bool := if joiB up ep sq l then true else up
noncomputable def joE (up : Bool) (ep sq : Int) (l : List (Int × Int × Int)) : Int := if joiB up ep sq l then ep + 1 else ep
noncomputable def joS (up : Bool) (ep sq : Int) (l : List (Int × Int × Int)) : Int := if joiB up ep sq l then 0 else sq
noncomputable def joL (up : Bool) (ep sq : Int) (l : List (Int × Int × Int)) : List (Int × Int × Int) := if joiB up ep sq l then [] else l
noncomputable def joI (up : Bool) (ep sq : Int) (l : List (Int × Int × Int)) : List Int := if joiB up ep sq l then idsL l else []
noncomputable def leU (up : Bool) (ep sq : Int) (l : List (Int × Int × Int)) : Bool := if lokB up ep sq l then false else up
noncomputable def leL (up : Bool) (ep sq : Int) (l : List (Int × Int × Int)) : List (Int × Int × Int) := if lokB up ep sq l then [] else l
noncomputable def leI (up : Bool) (ep sq : Int) (l : List (Int × Int × Int)) : List Int := if lokB up ep sq l then idsL l else []
/-- at most one has a number -/
theorem gone_one {l : List (Int × Int × Int)} (h : l.Pairwise fun a b => a.1 < b.1 ∧ a.2.1 ≠ b.2.1) (seq : Int) : (goneL (isS seq) l).length ≤ 1 := by
  rcases hg : goneL (isS seq) l with _ | ⟨a, _ | ⟨b, r⟩⟩
  · simp
  · simp
  · have h1 := h.sublist (goneL_sub (isS seq) l)
    have hm : ∀ t ∈ goneL (isS seq) l, t.1 = seq := fun t ht => by have := (List.mem_filter.1 ht).2; simpa [isS] using this
    rw [hg] at h1 hm
    have ha := hm a (by simp)
    have hb := hm b (by simp)
    have := (List.pairwise_cons.1 h1).1 b (by simp)
    omega
theorem idOf_none {l : List (Int × Int × Int)} {seq : Int} (h : goneL (isS seq) l = []) : idOf l seq = 0 := by unfold idOf; rw [h]; rfl
theorem idOf_cons {l r : List (Int × Int × Int)} {seq : Int} {t : Int × Int × Int} (h : goneL (isS seq) l = t :: r) : idOf l seq = t.2.1 := by unfold idOf; rw [h]; rfl
theorem idOf_skip {l : List (Int × Int × Int)} {seq : Int} {k : Nat} (hk : k < l.length) (h : isS seq l[k] = false) : idOf (l.take (k + 1)) seq = idOf (l.take k) seq := by
  unfold idOf; rw [(stayL_step_no hk h).2]
theorem idOf_hit {l : List (Int × Int × Int)} {seq : Int} {k : Nat} (hp : l.Pairwise fun a b => a.1 < b.1 ∧ a.2.1 ≠ b.2.1) (hk : k < l.length) (h : isS seq l[k] = true) : idOf (l.take (k + 1)) seq = l[k].2.1 := by
  have h1 := gone_one (hp.sublist (List.take_sublist (k + 1) l)) seq
  have h2 := (stayL_step_yes hk h).2
  rw [h2, List.length_append] at h1
  have h0 : goneL (isS seq) (l.take k) = [] := List.eq_nil_of_length_eq_zero (by simp at h1; simpa using h1)
  rw [h0, List.nil_append] at h2
  exact idOf_cons h2
end Go.Proofs.Ytecfomaapomncaa.Lnk
