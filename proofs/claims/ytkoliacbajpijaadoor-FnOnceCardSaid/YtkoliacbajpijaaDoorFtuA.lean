/-
  Plain facts on turns; an append of ints that can be read, in a guarded operation.
-/
import Derived.Test.YtkoliacbajpijaaDoorSptW
import Derived.Test.YtkoliacbajpijaaDoorMriW
namespace Go.Proofs.YtkoliacbajpijaaDoor.Whl
open Go.RowKit Go.Maps
set_option linter.unusedVariables false

theorem dueL_mem {l : List T} {to : Int} {t : T} : t ∈ dueL l to ↔ t ∈ l ∧ t.1 ≤ to := by simp [dueL]
theorem restL_mem {l : List T} {to : Int} {t : T} : t ∈ restL l to ↔ t ∈ l ∧ to < t.1 := by simp [restL]
theorem due_rest_len (l : List T) (to : Int) : (dueL l to).length + (restL l to).length = l.length := by
  induction l with
  | nil => rfl
  | cons t l ih =>
    by_cases h : t.1 ≤ to
    · have h2 : ¬ to < t.1 := by omega
      have e1 : dueL (t :: l) to = t :: dueL l to := by simp [dueL, h]
      have e2 : restL (t :: l) to = restL l to := by simp [restL, h2]
      rw [e1, e2]
      simp
      omega
    · have h2 : to < t.1 := by omega
      have e1 : dueL (t :: l) to = dueL l to := by simp [dueL, h]
      have e2 : restL (t :: l) to = t :: restL l to := by simp [restL, h2]
      rw [e1, e2]
      simp
      omega
theorem rest_rest {l : List T} {h to : Int} (hh : h ≤ to) : restL (restL l h) to = restL l to := by
  unfold restL
  rw [List.filter_filter]
  congr 1
  funext t
  by_cases h1 : to < t.1
  · have : h < t.1 := by omega
    simp [h1, this]
  · simp [h1]
theorem due_two {l : List T} {h to : Int} (hs : Srt l) (hh : h ≤ to) : dueL l h ++ dueL (restL l h) to = dueL l to := by
  refine srt_unique ?_ (hs.filter _) (fun t => ?_)
  · unfold Srt
    rw [List.pairwise_append]
    refine ⟨hs.filter _, (hs.filter _).filter _, fun a ha b hb => ?_⟩
    have h1 := dueL_mem.1 ha
    have h2 := restL_mem.1 (dueL_mem.1 hb).1
    unfold ahd
    omega
  · simp only [List.mem_append, dueL_mem, restL_mem]
    constructor
    · rintro (⟨h1, h2⟩ | ⟨⟨h1, h2⟩, h3⟩)
      · exact ⟨h1, by omega⟩
      · exact ⟨h1, h3⟩
    · rintro ⟨h1, h2⟩
      by_cases h3 : t.1 ≤ h
      · exact .inl ⟨h1, h3⟩
      · exact .inr ⟨⟨h1, by omega⟩, h2⟩
theorem rest_next {l : List T} {to : Int} (h : 0 < (restL l to).length) : to < nextL (restL l to) := by
  rw [nextL_some h]
  have h1 : (restL l to)[0] ∈ restL l to := List.getElem_mem _
  exact (restL_mem.1 h1).2
theorem trn_r {now to : Int} {l : List T} (h : trnB now l to = true) : trnN now l to = to ∧ trnR now l to = restL l to ∧ trnI now l to = (dueL l to).map Prod.snd := by
  unfold trnN trnR trnI
  rw [h]
  exact ⟨rfl, rfl, rfl⟩
theorem trn_s {now to : Int} {l : List T} (h : trnB now l to = false) : trnN now l to = now ∧ trnR now l to = l ∧ trnI now l to = [] := by
  unfold trnN trnR trnI
  rw [h]
  exact ⟨rfl, rfl, rfl⟩
theorem wpList_append_guard {P : Program} {w : World} {ops : Array Oper} {rest : List Oper} {o : Oper} {a : Act} {Q : Exit → Act → World → Prop} (hgd : Region.wanted o (yielded ops a.tmps) = true) (s x : Operand) (t : TypeId)
    (ho : o.op = .call { callee := .builtin .append, args := #[s, x], argTypes := #[t, t] }) (v sx : Value) (hs : a.eval s = v) (hx : a.eval x = sx) {R : Value → World → Prop}
    (hr : ∃ v' w', (Builtin.append_ #[t, t] o.type #[v, sx]).run P w = .ok v' w' ∧ R v' w') (h : ∀ v' w', R v' w' → wpList P ops Q rest (a.put o.dst v') w') : wpList P ops Q (o :: rest) a w :=
  wpList_step fun K hK => by
    rw [if_pos hgd]
    exact wp_append_run s x t ho v sx hs hx hr fun v' w' h2 => hK _ _ (h v' w' h2)
theorem IIs.flat {B : Nat} {w : World} {ad : Addr} {len : Nat} {l : List Int} (h : IIs B w (some ad) len l) : ∀ (j : Nat) (u : Value), (l.map fun x => Value.int .i64 x)[j]? = some u → w.cell? (ad.add j) = some u := by
  intro j u hu
  have hj : j < l.length := by
    have := (List.getElem?_eq_some_iff.1 hu).1
    simpa using this
  obtain ⟨b, off, e, _, hc⟩ := h.cell j hj
  injection e with e
  subst e
  have hadd : (⟨b, off, none⟩ : Addr).add j = ⟨b, off + j, none⟩ := by unfold Addr.add; split <;> simp_all
  rw [hadd, hc]
  rw [List.getElem?_map, List.getElem?_eq_getElem hj] at hu
  exact hu
theorem ints_one (l : List Int) : ∀ u ∈ (l.map fun x => Value.int .i64 x), u.oneCell' = true := by
  intro u hu
  obtain ⟨z, _, e⟩ := List.mem_map.1 hu
  rw [← e]
  rfl
theorem app_iis {w : World} {B : Nat} {v : Value} {xs l : List Int} {a : Option Addr} {len cap : Nat} (hown : IOwn B w v xs) (hs : IIs w.heap.size w a len l) (hcap : a = none → cap = 0) (hx : xs.length + len ≤ 2000000) (hB : B ≤ w.heap.size) :
    ∃ v' w', (Builtin.append_ #[40, 40] 40 #[v, .slice a len cap]).run Tryd.prog w = .ok v' w' ∧ AppI B w v (xs ++ l) v' w' := by
  obtain ⟨i0, hi, hz0, hz1, hz2⟩ := info_parts infoInt
  cases a with
  | none =>
    have hl0 : l = [] := by
      cases hc : l with
      | nil => rfl
      | cons t r =>
        obtain ⟨b, off, e, _⟩ := hs.cell 0 (by rw [hc]; simp)
        cases e
    subst hl0
    have hl1 : len = 0 := by have := hs.hlen; simpa using this.symm
    subst hl1
    rw [hcap rfl, List.append_nil]
    exact ⟨v, w, run_append_owned_none (P := Tryd.prog) (w := w) B 40 40 3 i0 1 Tryd.underlying40 hi v xs.length (xs.map fun x => .int .i64 x) hown, hown, World.grownBy.refl _ _, .inl rfl⟩
  | some ad =>
    have hlen := hs.hlen
    obtain ⟨v', w', hr, h2, h3, _, h5⟩ := run_append_own_at (P := Tryd.prog) w B 40 40 3 i0 _ 1 8 Tryd.underlying40 hi hz0 hz1 hz2 rfl (by omega) v xs.length (xs.map fun x => .int .i64 x) hown ad len cap (l.map fun x => .int .i64 x) (by rw [List.length_map]; omega) hs.flat (ints_one l) (by unfold maxLen; omega) (by omega) hB
    exact ⟨v', w', hr, by unfold IOwn; rw [List.length_append, List.map_append, hlen]; exact h2, h3, h5⟩
theorem IOwn.nilcap {B : Nat} {w : World} {a : Option Addr} {n cap : Nat} {l : List Int} (h : IOwn B w (.slice a n cap) l) : a = none → cap = 0 := by
  rintro rfl
  rcases h.2 with ⟨e, h0⟩ | ⟨g, c, cur, e, _⟩
  · simp only [Value.slice.injEq] at e
    exact e.2.2
  · simp at e
theorem IIs.here {w w' : World} {a : Option Addr} {len : Nat} {l : List Int} (h : IIs w.heap.size w a len l) (hb : Below w.heap.size w w') : IIs w'.heap.size w' a len l := (h.below hb).mono hb.size
end Go.Proofs.YtkoliacbajpijaaDoor.Whl
