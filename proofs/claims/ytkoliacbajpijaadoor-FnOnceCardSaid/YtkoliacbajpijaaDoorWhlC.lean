/-
  Plain facts on a wheel's slots: what stands where, what comes due, and when. No Go in sight.
-/
import Derived.Test.YtkoliacbajpijaaDoorWhlB
namespace Go.Proofs.YtkoliacbajpijaaDoor.Whl
set_option linter.unusedVariables false
set_option linter.unusedSectionVars false

def at_ (now : Int) (l s : Nat) (t : T) : Bool := decide (lev now t.1 = l ∧ dig t.1 l = (s : Int))
theorem at_iff {now : Int} {l s : Nat} {t : T} : at_ now l s t = true ↔ lev now t.1 = l ∧ dig t.1 l = (s : Int) := by simp [at_]
/-- the slots hold just these timers, each at its place -/
def Fit (now : Int) (f : Nat → Nat → List T) (L : List T) : Prop := ∀ l s, l < 5 → s < 64 → (f l s).Perm (L.filter (at_ now l s))
structure Liv (now : Int) (L : List T) : Prop where
  n0 : 0 ≤ now
  n1 : now ≤ 1000000000
  rng : ∀ t ∈ L, now ≤ t.1 ∧ t.1 ≤ 1000000000 ∧ 1 ≤ t.2 ∧ t.2 ≤ 9999
  ids : (L.map Prod.snd).Nodup
def upd2 {α : Type} (f : Nat → Nat → α) (l s : Nat) (u : α) : Nat → Nat → α := fun i j => if i = l ∧ j = s then u else f i j
theorem upd2_same {α : Type} (f : Nat → Nat → α) (l s : Nat) (u : α) : upd2 f l s u l s = u := if_pos ⟨rfl, rfl⟩
theorem upd2_other {α : Type} (f : Nat → Nat → α) {l s i j : Nat} (u : α) (h : ¬ (i = l ∧ j = s)) : upd2 f l s u i j = f i j := if_neg h

theorem Liv.lev4 {now : Int} {L : List T} (h : Liv now L) {t : T} (ht : t ∈ L) : lev now t.1 ≤ 4 := by
  have := h.rng t ht
  exact lev_four now t.1 h.n0 h.n1 (by have := h.n0; omega) this.2.1
theorem Liv.at {now : Int} {L : List T} (h : Liv now L) {t : T} (ht : t ∈ L) : AtLev now t.1 (lev now t.1) := atLev rfl (h.lev4 ht)
theorem fit_place {now : Int} {f : Nat → Nat → List T} {L : List T} (h : Fit now f L) (t : T) (l s : Nat) (hl : lev now t.1 = l) (hs : dig t.1 l = (s : Int)) : Fit now (upd2 f l s (f l s ++ [t])) (L ++ [t]) := by
  intro i j hi hj
  by_cases e : i = l ∧ j = s
  · obtain ⟨rfl, rfl⟩ := e
    rw [upd2_same, List.filter_append]
    have : [t].filter (at_ now i j) = [t] := by simp [at_iff.2 ⟨hl, hs⟩]
    rw [this]
    exact (h i j hi hj).append_right _
  · rw [upd2_other _ _ e, List.filter_append]
    have : [t].filter (at_ now i j) = [] := by
      have : at_ now i j t = false := by
        cases hh : at_ now i j t with
        | false => rfl
        | true =>
          have := at_iff.1 hh
          exfalso
          apply e
          obtain ⟨h1, h2⟩ := this
          have hil : i = l := by omega
          subst hil
          exact ⟨rfl, by omega⟩
      simp [this]
    rw [this, List.append_nil]
    exact h i j hi hj
theorem fit_take {now : Int} {f : Nat → Nat → List T} {L : List T} (h : Fit now f L) (l s : Nat) : Fit now (upd2 f l s []) (L.filter fun t => !at_ now l s t) := by
  intro i j hi hj
  by_cases e : i = l ∧ j = s
  · obtain ⟨rfl, rfl⟩ := e
    rw [upd2_same, List.filter_filter]
    have : L.filter (fun t => at_ now i j t && !at_ now i j t) = [] := by simp
    rw [this]
  · rw [upd2_other _ _ e, List.filter_filter]
    refine (h i j hi hj).trans ?_
    rw [List.filter_congr (fun t _ => ?_)]
    cases h1 : at_ now i j t with
    | false => simp
    | true =>
      have : at_ now l s t = false := by
        cases h2 : at_ now l s t with
        | false => rfl
        | true =>
          have a1 := at_iff.1 h1
          have a2 := at_iff.1 h2
          exfalso
          apply e
          have hil : i = l := by omega
          subst hil
          exact ⟨rfl, by omega⟩
      simp [this]
theorem fit_move {now n' : Int} {f : Nat → Nat → List T} {L : List T} (h : Fit now f L) (hm : ∀ t ∈ L, lev n' t.1 = lev now t.1) : Fit n' f L := by
  intro i j hi hj
  refine (h i j hi hj).trans ?_
  rw [List.filter_congr (fun t ht => ?_)]
  unfold at_
  rw [hm t ht]
theorem fit_perm {now : Int} {f : Nat → Nat → List T} {L L' : List T} (h : Fit now f L) (hp : L.Perm L') : Fit now f L' := fun i j hi hj => (h i j hi hj).trans (hp.filter _)
theorem fit_len {now : Int} {f : Nat → Nat → List T} {L : List T} (h : Fit now f L) {l s : Nat} (hl : l < 5) (hs : s < 64) : (f l s).length ≤ L.length := by
  rw [(h l s hl hs).length_eq]; exact List.length_filter_le _ _
theorem fit_mem {now : Int} {f : Nat → Nat → List T} {L : List T} (h : Fit now f L) {l s : Nat} (hl : l < 5) (hs : s < 64) {t : T} : t ∈ f l s ↔ t ∈ L ∧ lev now t.1 = l ∧ dig t.1 l = (s : Int) := by
  rw [(h l s hl hs).mem_iff, List.mem_filter, at_iff]
/-- a timer's place is filled -/
theorem fit_at {now : Int} {f : Nat → Nat → List T} {L : List T} (h : Fit now f L) (hv : Liv now L) {t : T} (ht : t ∈ L) : t ∈ f (lev now t.1) (dig t.1 (lev now t.1)).toNat := by
  have h4 := hv.lev4 ht
  have hd := dig_bd t.1 (lev now t.1)
  exact (fit_mem h (by omega) (by omega)).2 ⟨ht, rfl, by omega⟩
theorem Liv.sub {now : Int} {L L' : List T} (h : Liv now L) (hs : L'.Sublist L) : Liv now L' := ⟨h.n0, h.n1, fun t ht => h.rng t (hs.subset ht), h.ids.sublist (hs.map _)⟩
theorem Liv.perm {now : Int} {L L' : List T} (h : Liv now L) (hp : L.Perm L') : Liv now L' := ⟨h.n0, h.n1, fun t ht => h.rng t (hp.mem_iff.2 ht), (hp.map Prod.snd).nodup_iff.1 h.ids⟩
theorem Liv.move {now n' : Int} {L : List T} (h : Liv now L) (h0 : 0 ≤ n') (h1 : n' ≤ 1000000000) (hm : ∀ t ∈ L, n' ≤ t.1) : Liv n' L := ⟨h0, h1, fun t ht => ⟨hm t ht, (h.rng t ht).2⟩, h.ids⟩

/-- the first filled slot -/
structure Fst (f : Nat → Nat → List T) (l s : Nat) : Prop where
  l5 : l < 5
  s64 : s < 64
  ne : f l s ≠ []
  lo : ∀ j k, j < l → k < 64 → f j k = []
  ls : ∀ k, k < s → f l k = []
theorem Fst.least {now : Int} {f : Nat → Nat → List T} {L : List T} {l s : Nat} (h : Fst f l s) (hf : Fit now f L) (hv : Liv now L) {t : T} (ht : t ∈ L) : l < lev now t.1 ∨ l = lev now t.1 ∧ (s : Int) ≤ dig t.1 (lev now t.1) := by
  have hm := fit_at hf hv ht
  have h4 := hv.lev4 ht
  have hd := dig_bd t.1 (lev now t.1)
  rcases Nat.lt_trichotomy l (lev now t.1) with r | r | r
  · exact .inl r
  · refine .inr ⟨r, ?_⟩
    apply Int.not_lt.1
    intro hlt
    have := h.ls (dig t.1 (lev now t.1)).toNat (by omega)
    rw [r] at this
    rw [this] at hm
    simp at hm
  · rw [h.lo _ _ r (by omega)] at hm
    simp at hm

section
variable {now : Int} {f : Nat → Nat → List T} {L : List T} {l s : Nat} (h : Fst f l s) (hf : Fit now f L) (hv : Liv now L)
include h hf hv
theorem Fst.some_ : ∃ t, t ∈ L ∧ lev now t.1 = l ∧ dig t.1 l = (s : Int) := by
  obtain ⟨t, ht⟩ := List.exists_mem_of_ne_nil _ h.ne
  exact ⟨t, (fit_mem hf h.l5 h.s64).1 ht⟩
theorem Fst.now_le : now ≤ bgn now l (s : Int) := by
  obtain ⟨t, ht, hl, hs⟩ := h.some_ hf hv
  have := hv.rng t ht
  have h4 := h.l5
  rw [← hs]
  exact now_le_bgn (by omega) this.1 (atLev hl (by omega))
theorem Fst.bgn_le {t : T} (ht : t ∈ L) : bgn now l (s : Int) ≤ t.1 := by
  have := hv.rng t ht
  have h4 := h.l5
  have h6 := h.s64
  exact Go.Proofs.YtkoliacbajpijaaDoor.Whl.bgn_le (by omega) (hv.lev4 ht) this.1 (by omega) (by omega) (hv.at ht) (h.least hf hv ht)
theorem Fst.stay {t : T} (ht : t ∈ L) (hn : at_ now l s t = false) : lev (bgn now l (s : Int)) t.1 = lev now t.1 := by
  have hr := hv.rng t ht
  have h4 := h.l5
  have h6 := h.s64
  have hne : ¬ (lev now t.1 = l ∧ dig t.1 l = (s : Int)) := fun e => by rw [at_iff.2 e] at hn; simp at hn
  refine lev_of (stay_bgn (by omega) (hv.lev4 ht) hr.1 (by omega) (by omega) (h.now_le hf hv) (hv.at ht) ?_) (hv.lev4 ht)
  rcases h.least hf hv ht with r | ⟨r, r2⟩
  · exact .inl r
  · refine .inr ⟨r, ?_⟩
    have : dig t.1 (lev now t.1) ≠ (s : Int) := fun e => hne ⟨r.symm, by rw [r]; exact e⟩
    omega
theorem Fst.fall {t : T} (ht : t ∈ f l s) (h0 : 0 < l) : lev (bgn now l (s : Int)) t.1 < l := by
  obtain ⟨hL, hl, hs⟩ := (fit_mem hf h.l5 h.s64).1 ht
  have hr := hv.rng t hL
  have h4 := h.l5
  rw [← hs]
  exact fall_bgn (by omega) h0 hr.1 (atLev hl (by omega))
theorem Fst.zero {t : T} (ht : t ∈ f l s) (h0 : l = 0) : t.1 = bgn now l (s : Int) := by
  obtain ⟨hL, hl, hs⟩ := (fit_mem hf h.l5 h.s64).1 ht
  subst h0
  rw [← hs]
  exact (bgn_zero (atLev hl (by omega))).symm
theorem Fst.bgn_max : bgn now l (s : Int) ≤ 1000000000 := by
  obtain ⟨t, ht, hl, hs⟩ := h.some_ hf hv
  have := h.bgn_le hf hv ht
  have := hv.rng t ht
  omega
theorem Fst.bgn_pos : 0 ≤ bgn now l (s : Int) := by
  have := h.now_le hf hv
  have := hv.n0
  omega
theorem Fst.to_ {to : Int} (hn : now ≤ to) (hb : to < bgn now l (s : Int)) {t : T} (ht : t ∈ L) : lev to t.1 = lev now t.1 ∧ to < t.1 := by
  have hr := hv.rng t ht
  have h4 := h.l5
  have h6 := h.s64
  have hbl := h.bgn_le hf hv ht
  refine ⟨lev_of (stay_to (by omega) (hv.lev4 ht) hn (by omega) (by omega) hb hr.1 (hv.at ht) (h.least hf hv ht)) (hv.lev4 ht), by omega⟩
end
/-- the rest, when the first slot is emptied -/
def restAt (now : Int) (l s : Nat) (L : List T) : List T := L.filter fun t => !at_ now l s t
theorem rest_perm {now : Int} {f : Nat → Nat → List T} {L : List T} (hf : Fit now f L) {l s : Nat} (hl : l < 5) (hs : s < 64) : L.Perm (restAt now l s L ++ f l s) := by
  have h1 : L.Perm (L.filter (at_ now l s) ++ L.filter (fun t => !at_ now l s t)) := (List.filter_append_perm (at_ now l s) L).symm
  refine h1.trans (List.perm_append_comm.trans ?_)
  exact (hf l s hl hs).symm.append_left _
theorem rest_mem {now : Int} {l s : Nat} {L : List T} {t : T} : t ∈ restAt now l s L ↔ t ∈ L ∧ at_ now l s t = false := by simp [restAt]

/-- how far the timers are from falling due -/
def meas (now : Int) (L : List T) : Nat := (L.map fun t => lev now t.1 + 1).sum
theorem meas_append (now : Int) (L M : List T) : meas now (L ++ M) = meas now L + meas now M := by simp [meas]
theorem meas_perm {now : Int} {L M : List T} (h : L.Perm M) : meas now L = meas now M := (h.map _).sum_nat
theorem meas_congr {now n' : Int} {L : List T} (h : ∀ t ∈ L, lev n' t.1 = lev now t.1) : meas n' L = meas now L := by
  unfold meas
  rw [List.map_congr_left (fun t ht => by rw [h t ht])]
theorem meas_fall {now n' : Int} : ∀ {d : List T}, (∀ t ∈ d, lev n' t.1 + 1 ≤ lev now t.1) → meas n' d + d.length ≤ meas now d
  | [], _ => by simp [meas]
  | t :: d, h => by
    have h1 := meas_fall (d := d) (fun x hx => h x (List.mem_cons_of_mem _ hx))
    have h2 := h t List.mem_cons_self
    unfold meas at *
    simp only [List.map_cons, List.sum_cons, List.length_cons]
    omega
theorem meas_len (now : Int) : ∀ L : List T, L.length ≤ meas now L
  | [] => by simp [meas]
  | t :: d => by
    have := meas_len now d
    unfold meas at *
    simp only [List.map_cons, List.sum_cons, List.length_cons]
    omega
theorem meas_le {now : Int} : ∀ {L : List T}, (∀ t ∈ L, lev now t.1 ≤ 4) → meas now L ≤ 5 * L.length
  | [], _ => by simp [meas]
  | t :: d, h => by
    have h1 := meas_le (L := d) (fun x hx => h x (List.mem_cons_of_mem _ hx))
    have h2 := h t List.mem_cons_self
    unfold meas at *
    simp only [List.map_cons, List.sum_cons, List.length_cons]
    omega

/-- what has come due, and what is left -/
structure Due (to : Int) (L0 due L : List T) : Prop where
  srt : Srt due
  le : ∀ d ∈ due, d.1 ≤ to
  lt : ∀ d ∈ due, ∀ r ∈ L, d.1 < r.1
  mem : ∀ t, t ∈ L0 ↔ t ∈ due ∨ t ∈ L
theorem Due.start (to : Int) (L : List T) : Due to L [] L := ⟨List.Pairwise.nil, by simp, by simp, by simp⟩
theorem Due.perm {to : Int} {L0 due L L' : List T} (h : Due to L0 due L) (hp : L.Perm L') : Due to L0 due L' :=
  ⟨h.srt, h.le, fun d hd r hr => h.lt d hd r (hp.mem_iff.2 hr), fun t => by rw [h.mem t, hp.mem_iff]⟩
theorem nodup_of_ids {L : List T} (h : (L.map Prod.snd).Nodup) : L.Nodup := (List.pairwise_map.1 h).imp (fun h e => h (by rw [e]))
/-- timers of one time, sorted -/
theorem Due.step {to tau : Int} {L0 due L1 d d' : List T} (h : Due to L0 due (L1 ++ d)) (hids : ((L1 ++ d).map Prod.snd).Nodup) (ht : ∀ t ∈ d, t.1 = tau) (hto : tau ≤ to) (hr : ∀ r ∈ L1, tau < r.1)
    (hp : d'.Perm d) (hs : d'.Pairwise (fun x y => ¬ ahd y x)) : Due to L0 (due ++ d') L1 := by
  have hnd : d'.Nodup := by
    rw [hp.nodup_iff]
    exact (nodup_of_ids hids).sublist (List.sublist_append_right _ _)
  have hs' : Srt d' := by
    unfold Srt
    refine (hs.and hnd).imp (fun {a b} ⟨h1, h2⟩ => ?_)
    rcases ahd_total h2 with r | r
    · exact r
    · exact absurd r h1
  refine ⟨?_, ?_, ?_, ?_⟩
  · unfold Srt
    rw [List.pairwise_append]
    refine ⟨h.srt, hs', fun a ha b hb => ?_⟩
    exact .inl (h.lt a ha b (List.mem_append_right _ (hp.mem_iff.1 hb)))
  · intro x hx
    rcases List.mem_append.1 hx with r | r
    · exact h.le x r
    · rw [ht x (hp.mem_iff.1 r)]; exact hto
  · intro x hx r hr'
    rcases List.mem_append.1 hx with q | q
    · exact h.lt x q r (List.mem_append_left _ hr')
    · rw [ht x (hp.mem_iff.1 q)]; exact hr r hr'
  · intro t
    rw [h.mem t, List.mem_append, List.mem_append, hp.mem_iff]
    constructor
    · rintro (q | q | q)
      · exact .inl (.inl q)
      · exact .inr q
      · exact .inl (.inr q)
    · rintro ((q | q) | q)
      · exact .inl q
      · exact .inr (.inr q)
      · exact .inr (.inl q)
/-- at the end: just what is due by then, in order -/
theorem Due.end_ {to : Int} {L0 S0 due L : List T} (h : Due to L0 due L) (hl : ∀ r ∈ L, to < r.1) (hS : Srt S0) (hm : ∀ t, t ∈ S0 ↔ t ∈ L0) : due = dueL S0 to ∧ ∀ t, t ∈ L ↔ t ∈ restL S0 to := by
  constructor
  · refine srt_unique h.srt (hS.filter _) (fun t => ?_)
    unfold dueL
    rw [List.mem_filter, hm t, h.mem t]
    constructor
    · intro hd; exact ⟨.inl hd, by simpa using h.le t hd⟩
    · rintro ⟨r | r, h2⟩
      · exact r
      · have := hl t r; simp at h2; omega
  · intro t
    unfold restL
    rw [List.mem_filter, hm t, h.mem t]
    constructor
    · intro hr; exact ⟨.inr hr, by simpa using hl t hr⟩
    · rintro ⟨r | r, h2⟩
      · have := h.le t r; simp at h2; omega
      · exact r
end Go.Proofs.YtkoliacbajpijaaDoor.Whl
