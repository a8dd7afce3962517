/-
  The walk of turn: what is due comes out, in order.
-/
import Derived.Test.YtkoliacbajpijaaDoorWstB
import Derived.Deep.LoopGhost
namespace Go.Proofs.YtkoliacbajpijaaDoor.Whl
open Go.RowKit Go.Maps
set_option linter.unusedVariables false

/-- Where turn stands. -/
structure TurnI (B : Nat) (w0 wr : World) (b bm : Nat) (v0 : Nat → Nat → Value) (L0 : List T) (to : Int) (now : Int) (f : Nat → Nat → List T) (v : Nat → Nat → Value) (n : Nat) (D : DataW Unit) (L due : List T) (vd : Value) : Prop where
  st : WstE B wr b bm now f v n D
  fit : Fit now f L
  liv : Liv now L
  isDue : Due to L0 due L
  own : TOwn B wr 28 vd due
  far : ∀ g, vd.ownBlock = some g → w0.heap.size ≤ g ∧ Far b bm v g
  kp : KpV w0 wr b bm v0 v
  bd : n + meas now L ≤ 4000
  len : due.length + L.length ≤ 100
/-- .. and how it ends. -/
def TurnEnd (B : Nat) (w0 w' : World) (b bm : Nat) (v0 : Nat → Nat → Value) (L0 : List T) (to : Int) (e : Ending) : Prop :=
  ∃ f v n D L due vd, e = .returned vd ∧ TurnI B w0 w' b bm v0 L0 to to f v n D L due vd ∧ ∀ r ∈ L, to < r.1

section
variable {B : Nat} {w0 wr w' : World} {b bm : Nat} {v0 : Nat → Nat → Value} {L0 : List T} {to now : Int} {f : Nat → Nat → List T} {v : Nat → Nat → Value} {n : Nat} {D : DataW Unit} {L due : List T} {vd : Value}
theorem TurnI.below (h : TurnI B w0 wr b bm v0 L0 to now f v n D L due vd) (hb : Below wr.heap.size wr w') : TurnI B w0 w' b bm v0 L0 to now f v n D L due vd :=
  ⟨h.st.below hb, h.fit, h.liv, h.isDue, h.own.below hb, h.far, h.kp.below hb, h.bd, h.len⟩
/-- a new time that leaves all where it stands -/
theorem TurnI.setNow (h : TurnI B w0 wr b bm v0 L0 to now f v n D L due vd) (n' : Int) (h0 : 0 ≤ n') (h1 : n' ≤ 1000000000) (hm : ∀ t ∈ L, lev n' t.1 = lev now t.1 ∧ n' ≤ t.1) : TurnI B w0 (wr.setCell ⟨b, 0, none⟩ (.int .i64 n')) b bm v0 L0 to n' f v n D L due vd := by
  have hg := setCell_grown wr b 0 (.int .i64 n')
  refine ⟨h.st.setNow n', fit_move h.fit (fun t ht => (hm t ht).1), h.liv.move h0 h1 (fun t ht => (hm t ht).2), h.isDue, h.own.grown hg ?_, h.far, h.kp.grown hg (fun k hk _ => .inl (by injection hk with hk; exact hk.symm)), by rw [meas_congr (fun t ht => (hm t ht).1)]; exact h.bd, h.len⟩
  cases e : vd.ownBlock with
  | none => exact .inl rfl
  | some k => exact .inr (fun e2 => by injection e2 with e2; exact (h.far k e).2.1 e2)
theorem TurnI.tab (h : TurnI B w0 wr b bm v0 L0 to now f v n D L due vd) (hT : TabD w0) (hG : 0 < B) (hb : B ≤ b) (hm : B ≤ bm) (hv : ∀ l s, l < 5 → s < 64 → ∀ g, (v0 l s).ownBlock = some g → B ≤ g) (hB : B ≤ w0.heap.size) : TabD wr :=
  hT.below (h.kp.low hb hm hv hB) hG
end

/-- Where turn stands when a slot was taken: d, in the row g. -/
structure Mid (B : Nat) (w0 w : World) (b bm : Nat) (v0 : Nat → Nat → Value) (L0 : List T) (to : Int) (tau : Int) (f : Nat → Nat → List T) (v : Nat → Nat → Value) (n : Nat) (D : DataW Unit) (L1 d due : List T) (vd : Value) (g cap : Nat) : Prop where
  st : WstE B w b bm tau f v n D
  fit : Fit tau f L1
  liv : Liv tau (L1 ++ d)
  isDue : Due to L0 due (L1 ++ d)
  own : TOwn B w 28 vd due
  far : ∀ k, vd.ownBlock = some k → w0.heap.size ≤ k ∧ Far b bm v k
  row : TOwn B w 28 (.slice (some ⟨g, 0, none⟩) d.length cap) d
  rfar : Far b bm v g
  rnd : vd.ownBlock ≠ some g
  rv0 : g < w0.heap.size → ∃ i j, i < 5 ∧ j < 64 ∧ (v0 i j).ownBlock = some g
  kp : KpV w0 w b bm v0 v
  len : due.length + (L1 ++ d).length ≤ 100
theorem own_form {B : Nat} {w : World} {E : TypeId} {val : Value} {d : List T} (h : TOwn B w E val d) (hd : d ≠ []) : ∃ g cap, val = .slice (some ⟨g, 0, none⟩) d.length cap := by
  obtain ⟨g, cap, e, _⟩ := World.ownsRow.form h (List.length_pos_iff.2 hd)
  exact ⟨g, cap, e⟩
theorem mid_of {B : Nat} {w0 wr w2 w4 : World} {b bm : Nat} {v0 : Nat → Nat → Value} {L0 : List T} {to now tau : Int} {f : Nat → Nat → List T} {v : Nat → Nat → Value} {n : Nat} {D : DataW Unit} {L due : List T} {vd : Value} {l s : Nat}
    (h : TurnI B w0 wr b bm v0 L0 to now f v n D L due vd) (hF : Fst f l s) (ht : tau = bgn now l (s : Int)) (hw2 : Below wr.heap.size wr w2)
    (h4 : WstE B w4 b bm tau (upd2 f l s []) (upd2 v l s nilV) n D) (hg : (w2.setCell ⟨b, 0, none⟩ (.int .i64 tau)).grownBy w4 (some b)) :
    ∃ g cap, v l s = .slice (some ⟨g, 0, none⟩) (f l s).length cap ∧ Mid B w0 w4 b bm v0 L0 to tau (upd2 f l s []) (upd2 v l s nilV) n D (restAt now l s L) (f l s) due vd g cap := by
  obtain ⟨g, cap, hv⟩ := own_form (h.st.own l s hF.l5 hF.s64) hF.ne
  have hgo : (v l s).ownBlock = some g := by rw [hv]; rfl
  have hne := h.st.vne hF.l5 hF.s64 hgo
  have hsc := setCell_grown w2 b 0 (.int .i64 tau)
  have hp := rest_perm h.fit hF.l5 hF.s64
  have hstay : ∀ t ∈ restAt now l s L, lev tau t.1 = lev now t.1 := fun t ht' => by
    rw [ht]
    exact hF.stay h.fit h.liv (rest_mem.1 ht').1 (rest_mem.1 ht').2
  have hob : ∀ k, vd.ownBlock = some k → k ≠ b := fun k hk => (h.far k hk).2.1
  refine ⟨g, cap, hv, ⟨h4, fit_move (fit_take h.fit l s) hstay, ?_, h.isDue.perm hp, ?_, fun k hk => ?_, ?_, h.st.taken_far l s hF.l5 hF.s64 hgo, fun e => (h.far g e).2.2.2 l s hF.l5 hF.s64 hgo, fun hlt => ?_, ?_, ?_⟩⟩
  · refine (h.liv.perm hp).move (by rw [ht]; exact hF.bgn_pos h.fit h.liv) (by rw [ht]; exact hF.bgn_max h.fit h.liv) (fun t ht' => ?_)
    rw [ht]
    exact hF.bgn_le h.fit h.liv (hp.mem_iff.2 ht')
  · have h1 := (h.own.below hw2)
    have hx : vd.ownBlock = none ∨ vd.ownBlock ≠ some b := by
      cases e : vd.ownBlock with
      | none => exact .inl rfl
      | some k => exact .inr (fun e2 => by injection e2 with e2; exact hob k e e2)
    exact (h1.grown hsc hx).grown hg hx
  · refine ⟨(h.far k hk).1, (h.far k hk).2.1, (h.far k hk).2.2.1, fun i j hi hj e => ?_⟩
    by_cases e2 : i = l ∧ j = s
    · obtain ⟨rfl, rfl⟩ := e2
      rw [upd2_same] at e
      simp [nilV, Value.ownBlock] at e
    · rw [upd2_other _ _ e2] at e
      exact (h.far k hk).2.2.2 i j hi hj e
  · have h1 := ((h.st.own l s hF.l5 hF.s64).below hw2)
    rw [hv] at h1
    have hx : (Value.slice (some ⟨g, 0, none⟩) (f l s).length cap).ownBlock ≠ some b := by simpa [Value.ownBlock] using hne.1
    exact (h1.grown hsc (.inr hx)).grown hg (.inr hx)
  · rcases h.kp.vs l s hF.l5 hF.s64 g hgo with r | r
    · exact r
    · omega
  · exact (((h.kp.below hw2).grown hsc (fun k hk _ => .inl (by injection hk with hk; exact hk.symm))).trans (take_kpv v l s hg))
  · rw [← hp.length_eq]; exact h.len
theorem mid_meas_fall {now : Int} {f : Nat → Nat → List T} {L : List T} {l s : Nat} (hF : Fst f l s) (hf : Fit now f L) (hv : Liv now L) (h0 : 0 < l) :
    meas (bgn now l (s : Int)) (restAt now l s L ++ f l s) + (f l s).length ≤ meas now L := by
  rw [meas_perm (rest_perm hf hF.l5 hF.s64), meas_append, meas_append, meas_congr (fun t ht => hF.stay hf hv (rest_mem.1 ht).1 (rest_mem.1 ht).2)]
  have := meas_fall (now := now) (n' := bgn now l (s : Int)) (d := f l s) (fun t ht => by
    have h1 := hF.fall hf hv ht h0
    have h2 := ((fit_mem hf hF.l5 hF.s64).1 ht).2.1
    omega)
  omega
theorem mid_meas_rest {now : Int} {f : Nat → Nat → List T} {L : List T} {l s : Nat} (hF : Fst f l s) (hf : Fit now f L) (hv : Liv now L) :
    meas (bgn now l (s : Int)) (restAt now l s L) + (f l s).length ≤ meas now L := by
  rw [meas_perm (rest_perm hf hF.l5 hF.s64), meas_append, meas_congr (fun t ht => hF.stay hf hv (rest_mem.1 ht).1 (rest_mem.1 ht).2)]
  have := meas_len now (f l s)
  omega

theorem kp_keep {B : Nat} {w w1 : World} {b bm g : Nat} {E : TypeId} {val : Value} {l : List T} (h : Kp w w1 b bm (some g)) (ho : TOwn B w E val l) (hf : ∀ k, val.ownBlock = some k → k ≠ b ∧ k ≠ bm ∧ k ≠ g) : TOwn B w1 E val l := by
  refine ⟨ho.1, ?_⟩
  rcases ho.2 with e | ⟨k, cap, cur, e, hb, hg, r⟩
  · exact .inl e
  · have hlt := (World.ownsRow.lt ho k (by rw [e]; rfl)).2
    obtain ⟨h1, h2, h3⟩ := hf k (by rw [e]; rfl)
    exact .inr ⟨k, cap, cur, e, hb, (h.block k hlt h1 h2 (by simpa using Ne.symm h3)).trans hg, r⟩
theorem mid_release {B : Nat} {w0 w4 w5 w6 : World} {b bm : Nat} {v0 : Nat → Nat → Value} {L0 : List T} {to tau : Int} {f : Nat → Nat → List T} {v : Nat → Nat → Value} {n : Nat} {D D' : DataW Unit} {L1 d d' due : List T} {vd vd' : Value} {g cap : Nat}
    (h : Mid B w0 w4 b bm v0 L0 to tau f v n D L1 d due vd g cap) (h5 : WstE B w5 b bm tau f v n D') (hkp : Kp w4 w5 b bm (some g)) (hl : d'.length = d.length) (hp : d'.Perm d) (hs : d'.Pairwise (fun x y => ¬ ahd y x))
    (ho6 : w6.ownsRow B 28 2 vd' (due.length + d.length) (flat due ++ flat d')) (hgrow : w5.grownBy w6 vd.ownBlock) (hat : vd'.ownBlock = vd.ownBlock ∨ vd'.ownBlock = some w5.heap.size)
    (hz : ∀ t ∈ d, t.1 = tau) (hlt : ∀ r ∈ L1, tau < r.1) (hto : tau ≤ to) (hbd : n + meas tau L1 ≤ 4000) :
    TurnI B w0 w6 b bm v0 L0 to tau f v n D' L1 (due ++ d') vd' := by
  have hkp5 : KpV w0 w5 b bm v0 v := h.kp.kp hkp h.rv0
  refine ⟨h5.grown hgrow (fun k hk => (h.far k hk).2), h.fit, h.liv.sub (List.sublist_append_left _ _), h.isDue.step h.liv.ids hz hto hlt hp hs, ?_, fun k hk => ?_, hkp5.grown hgrow (fun k hk hlt' => ?_), hbd, ?_⟩
  · unfold TOwn
    rw [List.length_append, hl, flat_append]
    exact ho6
  · rcases hat with e | e
    · exact h.far k (e ▸ hk)
    · rw [e] at hk
      injection hk with hk
      subst hk
      exact ⟨hkp5.size, h5.far_new (Nat.le_refl _)⟩
  · have := (h.far k hk).1; omega
  · have := h.len
    simp only [List.length_append] at this ⊢
    omega
theorem rest_later {now tau : Int} {f : Nat → Nat → List T} {L : List T} {l s : Nat} (hF : Fst f l s) (hf : Fit now f L) (hz : ∀ t ∈ f l s, t.1 = tau) (hle : ∀ r ∈ restAt now l s L, tau ≤ r.1) : ∀ r ∈ restAt now l s L, tau < r.1 := by
  intro r hr
  have h1 := hle r hr
  rcases Int.lt_or_eq_of_le h1 with h2 | h2
  · exact h2
  · exfalso
    obtain ⟨t, ht⟩ := List.exists_mem_of_ne_nil _ hF.ne
    have h3 := hz t ht
    obtain ⟨_, h4, h5⟩ := (fit_mem hf hF.l5 hF.s64).1 ht
    have h6 := (rest_mem.1 hr).2
    rw [at_iff.2 ⟨by rw [← h2, ← h3]; exact h4, by rw [← h2, ← h3]; exact h5⟩] at h6
    simp at h6

/-- Where the cascade stands: j of d were placed anew. -/
structure Casc (B : Nat) (w0 w : World) (b bm : Nat) (v0 : Nat → Nat → Value) (tau : Int) (f : Nat → Nat → List T) (v : Nat → Nat → Value) (n j : Nat) (D : DataW Unit) (L1 d due : List T) (vd : Value) (g cap : Nat) : Prop where
  st : WstE B w b bm tau f v (n + j) D
  fit : Fit tau f (L1 ++ d.take j)
  own : TOwn B w 28 vd due
  far : ∀ k, vd.ownBlock = some k → w0.heap.size ≤ k ∧ Far b bm v k
  row : TOwn B w 28 (.slice (some ⟨g, 0, none⟩) d.length cap) d
  rfar : Far b bm v g
  kp : KpV w0 w b bm v0 v
theorem casc_start {B : Nat} {w0 w4 : World} {b bm : Nat} {v0 : Nat → Nat → Value} {L0 : List T} {to tau : Int} {f : Nat → Nat → List T} {v : Nat → Nat → Value} {n : Nat} {D : DataW Unit} {L1 d due : List T} {vd : Value} {g cap : Nat}
    (h : Mid B w0 w4 b bm v0 L0 to tau f v n D L1 d due vd g cap) : Casc B w0 w4 b bm v0 tau f v n 0 D L1 d due vd g cap :=
  ⟨h.st, by simpa using h.fit, h.own, h.far, h.row, h.rfar, h.kp⟩
theorem casc_step {B : Nat} {w0 w w1 w' : World} {b bm : Nat} {v0 : Nat → Nat → Value} {tau x y : Int} {f : Nat → Nat → List T} {v v' : Nat → Nat → Value} {n j li si : Nat} {D D' : DataW Unit} {L1 d due : List T} {vd : Value} {g cap : Nat}
    (h : Casc B w0 w b bm v0 tau f v n j D L1 d due vd g cap) (hj : j < d.length) (hxy : d[j] = (x, y)) (hb : Below w.heap.size w w1) (hl : lev tau x = li) (hs : dig x li = (si : Int))
    (h' : WstE B w' b bm tau (upd2 f li si (f li si ++ [(x, y)])) v' (n + j + 1) D') (hk : KpV w1 w' b bm v v') : Casc B w0 w' b bm v0 tau (upd2 f li si (f li si ++ [(x, y)])) v' n (j + 1) D' L1 d due vd g cap := by
  have hown : ∀ {val : Value} {l : List T}, TOwn B w 28 val l → (∀ k, val.ownBlock = some k → Far b bm v k) → TOwn B w' 28 val l := fun ho hf => hk.keep (ho.below hb) hf
  have hfar : ∀ {val : Value} {l : List T}, TOwn B w 28 val l → ∀ k, val.ownBlock = some k → Far b bm v k → Far b bm v' k := fun ho k hk' hf => hk.far (Nat.lt_of_lt_of_le (World.ownsRow.lt ho k hk').2 hb.size) hf
  refine ⟨h', ?_, hown h.own (fun k e => (h.far k e).2), fun k e => ⟨(h.far k e).1, hfar h.own k e (h.far k e).2⟩, hown h.row (fun k e => ?_), hfar h.row g rfl h.rfar, (h.kp.below hb).trans hk⟩
  · have := fit_place h.fit (x, y) li si hl hs
    rw [List.append_assoc, ← hxy, ← List.take_succ_eq_append_getElem hj, hxy] at this
    exact this
  · simp only [Value.ownBlock, Option.some.injEq] at e
    exact e ▸ h.rfar
theorem casc_end {B : Nat} {w0 w4 w : World} {b bm : Nat} {v0 : Nat → Nat → Value} {L0 : List T} {to tau : Int} {f f1 : Nat → Nat → List T} {v v1 : Nat → Nat → Value} {n : Nat} {D D1 : DataW Unit} {L1 d due : List T} {vd : Value} {g cap : Nat}
    (hM : Mid B w0 w4 b bm v0 L0 to tau f1 v1 n D1 L1 d due vd g cap) (h : Casc B w0 w b bm v0 tau f v n d.length D L1 d due vd g cap) (hbd : n + d.length + meas tau (L1 ++ d) ≤ 4000) : TurnI B w0 w b bm v0 L0 to tau f v (n + d.length) D (L1 ++ d) due vd :=
  ⟨h.st, by have := h.fit; rwa [List.take_length] at this, hM.liv, hM.isDue, h.own, h.far, h.kp, hbd, hM.len⟩

set_option maxRecDepth 100000 in
set_option maxHeartbeats 400000 in
theorem turn_walk (w0 : World) (B b bm : Nat) (now0 to : Int) (f0 : Nat → Nat → List T) (v0 : Nat → Nat → Value) (n0 : Nat) (D0 : DataW Unit) (L0 : List T)
    (hst : WstE B w0 b bm now0 f0 v0 n0 D0) (hfit : Fit now0 f0 L0) (hliv : Liv now0 L0) (hto : now0 ≤ to) (hto1 : to ≤ 1000000000) (hbd : n0 + meas now0 L0 ≤ 4000) (hlen : L0.length ≤ 100)
    (hT : TabD w0) (hG : 0 < B) (hb : B ≤ b) (hm : B ≤ bm) :
    Calls Tryd.prog 52 #[.pointer (some ⟨b, 0, none⟩), .int .i64 to] w0 fun e w' => TurnEnd B w0 w' b bm v0 L0 to e := by
  obtain ⟨i0, hi, hz0, hz1, hz2⟩ := info_parts infoTimer
  have HTAB := Lib.hid (fun (wr : World) (now : Int) (f : Nat → Nat → List T) (v : Nat → Nat → Value) (n : Nat) (D : DataW Unit) (L due : List T) (vd : Value) (h : TurnI B w0 wr b bm v0 L0 to now f v n D L due vd) => h.tab hT hG hb hm (fun l s hl hs g hg => (hst.vlt hl hs hg).1) hst.hB)
  have hI : TurnI B w0 w0 b bm v0 L0 to now0 f0 v0 n0 D0 L0 [] nilV := ⟨hst, hfit, hliv, Due.start to L0, World.ownsRow_nil _ _ _ _, fun g e => by simp [nilV, Value.ownBlock] at e, KpV.refl _ _ _ _, hbd, by simpa using hlen⟩
  have HI := Lib.hid hI
  have HTO := Lib.hid hto
  clear hst hfit hliv hbd hlen hT hI hto
  go_enter Tryd.func52, Tryd.ntmps52
  go_wp2_with fail
  go_loopg [5] (meas now0 L0) (fun gk vd wr => ∃ (now : Int) (f : Nat → Nat → List T) (v : Nat → Nat → Value) (n : Nat) (D : DataW Unit) (L due : List T), Hid (TurnI B w0 wr b bm v0 L0 to now f v n D L due vd) ∧ Hid (now ≤ to) ∧ Hid (gk = meas now L))
  case atStart => exact ⟨now0, f0, v0, n0, D0, L0, [], HI, HTO, Lib.hid rfl⟩
  case round =>
    obtain ⟨now, f, v, n, D, L, due, HJ, HNT, HK⟩ := hrel
    have htb := HTAB.out _ _ _ _ _ _ _ _ _ HJ.out
    go_wp2_with fail
    refine (first_st HJ.out.st htb).mono ?_
    rintro e w' ⟨hp, rfl⟩
    clear htb
    rcases hp with ⟨l, s, hF, rfl⟩ | ⟨hall, rfl⟩
    · have HF := Lib.hid hF
      clear hF
      go_wp2_with fail
      refine (begin_st HJ.out.st HJ.out.liv.n0 HJ.out.liv.n1 l s HF.out.l5 HF.out.s64).mono ?_
      rintro e w' ⟨rfl, n1, rfl⟩
      obtain ⟨tau, htau⟩ : ∃ tau, tau = bgn now l (s : Int) := ⟨_, rfl⟩
      rw [← htau]
      have HTAU := Lib.hid htau
      clear htau
      have HJ1 := Lib.hid (HJ.out.below (below_drewN (Below.refl _ _) n1))
      obtain ⟨w1, hw1⟩ : ∃ w1, w1 = wr.drewN n1 := ⟨_, rfl⟩
      rw [← hw1] at HJ1 ⊢
      clear hw1
      obtain ⟨k0, k1⟩ := HJ1.out.st.nowCell
      by_cases hgt : to < tau
      · have HGT := Lib.hid hgt
        go_wp2_with fail
        go_ret
        refine ⟨f, v, n, D, L, due, _, rfl, HJ1.out.setNow to (by have := HJ.out.liv.n0; have := HNT.out; omega) hto1 (fun t ht => ?_), fun r hr => ?_⟩
        · have := HF.out.to_ HJ.out.fit HJ.out.liv HNT.out (by rw [← HTAU.out]; exact HGT.out) ht
          exact ⟨this.1, by omega⟩
        · exact (HF.out.to_ HJ.out.fit HJ.out.liv HNT.out (by rw [← HTAU.out]; exact HGT.out) hr).2
      · have hle : tau ≤ to := by omega
        have HLE := Lib.hid hle
        clear hgt
        go_wp2_with fail
        refine (begin_st HJ1.out.st HJ1.out.liv.n0 HJ1.out.liv.n1 l s HF.out.l5 HF.out.s64).mono ?_
        rintro e w' ⟨rfl, n2, rfl⟩
        rw [← HTAU.out]
        have HB2 := Lib.hid (below_drewN (Below.refl w1.heap.size w1) n2)
        obtain ⟨w2, hw2⟩ : ∃ w2, w2 = w1.drewN n2 := ⟨_, rfl⟩
        rw [← hw2] at HB2 ⊢
        clear hw2 k0 k1
        have HST2 := Lib.hid (HJ1.out.st.below HB2.out)
        obtain ⟨k0, k1⟩ := HST2.out.nowCell
        go_wp2_with fail
        refine (take_st (HST2.out.setNow tau) l s HF.out.l5 HF.out.s64).mono ?_
        rintro e w4 ⟨rfl, h4, hg4⟩
        obtain ⟨g, cap, hv, hmid⟩ := mid_of HJ1.out HF.out HTAU.out HB2.out h4 hg4
        rw [hv]
        have HMID := Lib.hid hmid
        have HM1 := Lib.hid (mid_meas_rest HF.out HJ.out.fit HJ.out.liv)
        have HM2 := Lib.hid (mid_meas_fall HF.out HJ.out.fit HJ.out.liv)
        have HNE := Lib.hid (List.length_pos_iff.2 HF.out.ne)
        have HZERO := Lib.hid (fun (h : l = 0) t ht => HF.out.zero HJ.out.fit HJ.out.liv (t := t) ht h)
        have HLT := Lib.hid (fun r (hr : r ∈ restAt now l s L) => HF.out.bgn_le HJ.out.fit HJ.out.liv (rest_mem.1 hr).1)
        have HBD := Lib.hid HJ.out.bd
        rw [← HTAU.out] at HM1 HM2 HZERO HLT
        clear h4 hg4 hmid hv HJ1 HST2 HB2 k0 k1
        by_cases hl0 : l = 0
        · have HL0 := Lib.hid hl0
          have hb0 : ((l : Int) == 0) = true := by simp [hl0]
          have hb0' : (l == 0) = true := by simp [hl0]
          clear hl0 hb0'
          have HRL := Lib.hid (rest_later HF.out HJ.out.fit (HZERO.out HL0.out) HLT.out)
          have hdl : (f l s).length ≤ 100 := by have := HMID.out.len; simp only [List.length_append] at this; omega
          have hdu : due.length ≤ 100 := by have := HMID.out.len; omega
          have HIDS := Lib.hid (fun t (ht : t ∈ f l s) => (HMID.out.liv.rng t (List.mem_append_right _ ht)).2.2)
          obtain ⟨d, hd⟩ : ∃ d, d = f l s := ⟨_, rfl⟩
          rw [← hd] at HMID HM1 HZERO HNE HIDS hdl
          rw [← hd]
          have HD := Lib.hid hd
          clear hd
          go_wp2_with fail
          refine (release_st HMID.out.st g cap d HMID.out.row HMID.out.rfar (by omega) HIDS.out).mono ?_
          rintro e w5 ⟨rfl, h5, ⟨d', hl', hp', hs', ho'⟩, hkp5⟩
          have hod : TOwn B w5 28 u5 due := kp_keep hkp5 HMID.out.own (fun k hk => ⟨(HMID.out.far k hk).2.1, (HMID.out.far k hk).2.2.1, fun e => HMID.out.rnd (e ▸ hk)⟩)
          have HOD := Lib.hid hod
          unfold TOwn at HOD
          have hnews : ∀ j u, (flat d')[j]? = some u → w5.cell? ((⟨g, 0, none⟩ : Addr).add j) = some u := World.ownsRow.cells (g := g) (by have := ho'; unfold TOwn at this; rw [← hl'] at this; exact this) rfl
          have HNEWS := Lib.hid hnews
          have HB5 := Lib.hid h5.hB
          have HH5 := Lib.hid h5
          have HP5 := Lib.hid hkp5
          have HPD := Lib.hid hp'
          have HSD := Lib.hid hs'
          have HLD := Lib.hid hl'
          clear hod hnews h5 hkp5 hp' hs' ho' hl'
          go_wp2_with (first | (at_builtin; refine wpList_append_own_at _ rfl _ _ 24 rfl B 28 i0 _ 2 16 Tryd.underlying24 hi hz0 hz1 hz2 rfl (by omega) u5 due.length (flat due) rfl HOD.out ⟨g, 0, none⟩ d.length cap (flat d') rfl (by rw [flat_len, HLD.out]) HNEWS.out (flat_one d') (by unfold maxLen; omega) (by omega) HB5.out ?_; intro vd' w6 hown6 hgrow6 _ hat6) | fail)
          go_roundg (meas tau (restAt now l s L))
          case measure => rw [HK.out]; have := HM1.out; have := HNE.out; omega
          case rel => exact ⟨tau, _, _, n, _, _, due ++ d', Lib.hid (mid_release HMID.out HH5.out HP5.out HLD.out HPD.out HSD.out hown6 hgrow6 hat6 (HZERO.out HL0.out) HRL.out HLE.out (by have := HM1.out; have := HBD.out; omega)), HLE, Lib.hid rfl⟩
        · have HL0 := Lib.hid hl0
          have hb0 : ((l : Int) == 0) = false := by simp [hl0]
          have hl1 : 0 < l := by omega
          have HM3 := Lib.hid (HM2.out hl1)
          have hdl : (f l s).length ≤ 100 := by have := HMID.out.len; simp only [List.length_append] at this; omega
          have hLl : (restAt now l s L ++ f l s).length ≤ 100 := by have := HMID.out.len; omega
          have HLL := Lib.hid hLl
          obtain ⟨d, hd⟩ : ∃ d, d = f l s := ⟨_, rfl⟩
          rw [← hd] at HMID HM3 HNE hdl HLL
          rw [← hd]
          clear hd hl0 hl1 hLl HM1 HM2 HZERO
          obtain ⟨L1, hL1⟩ : ∃ L1, L1 = restAt now l s L := ⟨_, rfl⟩
          rw [← hL1] at HMID HM3 HLT HLL
          clear hL1
          obtain ⟨dl, hdle⟩ : ∃ dl, dl = d.length := ⟨_, rfl⟩
          have HDL := Lib.hid hdle
          rw [← hdle] at hdl ⊢
          clear hdle
          have HC0 := Lib.hid (casc_start HMID.out)
          go_wp2_with fail
          go_loopw [53] (fun i w => ∃ (j : Nat) (f' : Nat → Nat → List T) (v' : Nat → Nat → Value) (D' : DataW Unit), j ≤ dl ∧ i = .int .i64 j ∧ Hid (Casc B w0 w b bm v0 tau f' v' n j D' L1 d due u5 g cap)) (fun i _ => dl - (intOf i).toNat)
          case atStart => exact ⟨0, _, _, _, by omega, rfl, HC0⟩
          case round =>
            obtain ⟨j, f', v', D', hj, rfl, HC⟩ := hrel
            by_cases hlt : (j : Int) < (dl : Int)
            · have hjd : j < d.length := by have := HDL.out; omega
              obtain ⟨c0, c1, _, _⟩ := HC.out.row.cellAt j hjd
              have hmem : d[j] ∈ L1 ++ d := List.mem_append_right _ (List.getElem_mem hjd)
              have hrng := HMID.out.liv.rng d[j] hmem
              have hlv4 := HMID.out.liv.lev4 hmem
              obtain ⟨x, hx⟩ : ∃ x, x = d[j].1 := ⟨_, rfl⟩
              obtain ⟨y, hy⟩ : ∃ y, y = d[j].2 := ⟨_, rfl⟩
              have HXY := Lib.hid (show d[j] = (x, y) by rw [hx, hy])
              rw [← hx] at c0 hrng hlv4
              rw [← hy] at c1 hrng
              clear hx hy hmem
              have HR := Lib.hid hrng
              have HLV := Lib.hid hlv4
              clear hrng hlv4
              have hdb := dig_bd x (lev tau x)
              have HSI := Lib.hid (show dig x (lev tau x) = ((dig x (lev tau x)).toNat : Int) by omega)
              have HSB := Lib.hid (show (dig x (lev tau x)).toNat < 64 by omega)
              clear hdb
              have HB1 := Lib.hid (bOne wr (.cells #[.int .i64 x, .int .i64 y] 28))
              have HFL := Lib.hid (show (f' (lev tau x) (dig x (lev tau x)).toNat).length ≤ 1000 by
                have h1 := fit_len HC.out.fit (l := lev tau x) (s := (dig x (lev tau x)).toNat) (by have := HLV.out; omega) HSB.out
                have h2 := HLL.out
                simp only [List.length_append, List.length_take] at h1 h2
                omega)
              have HNJ := Lib.hid (show n + j ≤ 5000 by have := HBD.out; have := HM3.out; omega)
              go_wp2_with fail
              refine (place_st (HC.out.st.below HB1.out) x y (lev tau x) (dig x (lev tau x)).toNat rfl HSI.out (by have := HLV.out; omega) HSB.out HMID.out.liv.n0 HMID.out.liv.n1 (by have := HMID.out.liv.n0; have := HR.out; omega) HR.out.2.1 HR.out.2.2.1 HR.out.2.2.2 HFL.out HNJ.out).mono ?_
              rintro e w6 ⟨rfl, v6, h6, hk6⟩
              have HC6 := Lib.hid (casc_step HC.out hjd HXY.out HB1.out rfl HSI.out h6 hk6)
              clear h6 hk6 c0 c1
              go_wp2_with fail
              go_roundw
              case rel => exact ⟨j + 1, _, v6, _, by omega, by go_num, HC6⟩
              case measure => simp [intOf]; omega
            · have hjd : j = d.length := by have := HDL.out; omega
              have HCE := Lib.hid (casc_end HMID.out (by have := HC.out; rwa [hjd] at this) (by have := HM3.out; have := HBD.out; omega))
              clear hjd
              go_wp2_with fail
              go_roundg (meas tau (L1 ++ d))
              case measure => rw [HK.out]; have := HM3.out; have := HNE.out; omega
              case rel => exact ⟨tau, f', v', _, D', L1 ++ d, due, HCE, HLE, Lib.hid rfl⟩
    · have hL : L = [] := by
        cases hc : L with
        | nil => rfl
        | cons t r =>
          have ht : t ∈ L := by rw [hc]; simp
          have h1 := fit_at HJ.out.fit HJ.out.liv ht
          have h4 := HJ.out.liv.lev4 ht
          have hd := dig_bd t.1 (lev now t.1)
          rw [hall _ _ (by omega) (by omega)] at h1
          simp at h1
      subst hL
      clear hall
      obtain ⟨k0, k1⟩ := HJ.out.st.nowCell
      go_wp2_with fail
      go_ret
      exact ⟨f, v, n, D, [], due, _, rfl, HJ.out.setNow to (by have := HJ.out.liv.n0; have := HNT.out; omega) hto1 (by simp), by simp⟩
end Go.Proofs.YtkoliacbajpijaaDoor.Whl
