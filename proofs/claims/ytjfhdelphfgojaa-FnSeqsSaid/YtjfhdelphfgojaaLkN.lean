/-
  The walk of the specification's Launch.
-/
import Derived.Test.YtjfhdelphfgojaaLkH
namespace Go.Proofs.Ytjfhdelphfgojaa.Lnk
open Go.RowKit
set_option linter.unusedVariables false

/-- a link in a box at o, whose list is of the call's own, from B on -/
structure H4 (w : World) (o B : Nat) (up : Bool) (ep sq : Int) (v : Value) (S : List Y) : Prop where
  box : B4 w o up ep sq v
  fro : Fr w o
  own : YOwn B w 40 v S
  ne : v.ownBlock ≠ some o
  lo : B ≤ o
section
variable {w w1 w2 : World} {o B : Nat} {up : Bool} {ep sq : Int} {v v' : Value} {S S' : List Y}
theorem H4.new {w : World} {a : Option Addr} {n cap : Nat} (h : YOwn B w 40 (.slice a n cap) S) (hB : B ≤ w.heap.size) (up : Bool) (ep sq : Int) : H4 (w.alloc (.cells #[.bool up, .int .i64 ep, .int .i64 sq, .slice a n cap] 26)) w.heap.size B up ep sq (.slice a n cap) S :=
  ⟨B4.new w _ _ _ _ _, Fr.new w _ _, h.below (bOne _ _), fun e => by have := (World.ownsRow.lt h _ e).2; omega, hB⟩
theorem H4.below (h : H4 w o B up ep sq v S) (hb : Below w.heap.size w w1) : H4 w1 o B up ep sq v S := ⟨h.box.below hb, h.fro.low hb h.box.lt, h.own.below hb, h.ne, h.lo⟩
theorem H4.cells (h : H4 w o B up ep sq v S) : (w.cell? ⟨o, 0, none⟩ = some (.bool up) ∧ w.cell? ⟨o, 1, none⟩ = some (.int .i64 ep) ∧ w.cell? ⟨o, 2, none⟩ = some (.int .i64 sq) ∧ w.cell? ⟨o, 3, none⟩ = some v) ∧ w.frozen? ⟨o, 2, none⟩ = false ∧ w.frozen? ⟨o, 3, none⟩ = false ∧ o < w.heap.size := ⟨⟨h.box.c0, h.box.c1, h.box.c2, h.box.c3⟩, h.fro 2, h.fro 3, h.box.lt⟩
theorem H4.set2 (h : H4 w o B up ep sq v S) (z : Int) : H4 (w.setCell ⟨o, 2, none⟩ (.int .i64 z)) o B up ep z v S :=
  ⟨⟨by rw [World.cell?_setCell_other _ _ _ _ (by simp)]; exact h.box.c0, by rw [World.cell?_setCell_other _ _ _ _ (by simp)]; exact h.box.c1, World.cell?_setCell_same' _ _ _ (by rw [h.box.c2]; rfl), by rw [World.cell?_setCell_other _ _ _ _ (by simp)]; exact h.box.c3, by simpa using h.box.lt⟩,
    h.fro.set _ _, h.own.grown (setCell_grown w o 2 _) (.inr h.ne), h.ne, h.lo⟩
theorem H4.at_ (h : H4 w o B up ep sq v S) (hb : Below w.heap.size w w1) (ha : AppY B w1 v S' v' w2) : B4 w2 o up ep sq v ∧ Fr w2 o ∧ (v'.ownBlock ≠ some o) := by
  have h1 := h.below hb
  have hg := ha.2.1
  refine ⟨h1.box.grown hg h.ne, h1.fro.grown h1.box.lt hg h.ne, ?_⟩
  rcases ha.2.2 with e | e
  · rw [e]; exact h.ne
  · rw [e]
    have := h1.box.lt
    simp
    omega
theorem H4.app (h : H4 w o B up ep sq v S) (hb : Below w.heap.size w w1) (ha : AppY B w1 v S' v' w2) : H4 (w2.setCell ⟨o, 3, none⟩ v') o B up ep sq v' S' ∧ Below B w (w2.setCell ⟨o, 3, none⟩ v') := by
  obtain ⟨h1, h2, h3⟩ := h.at_ hb ha
  have hBw : B ≤ w.heap.size := Nat.le_trans h.lo (Nat.le_of_lt h.box.lt)
  refine ⟨⟨h1.set3 v', h2.set _ _, ha.1.grown (setCell_grown w2 o 3 v') (.inr h3), h3, h.lo⟩, ?_⟩
  exact (ha.below (hb.mono hBw) hBw (fun k hk => (World.ownsRow.lt h.own k hk).1)).setCell (by simpa using h.lo) _
end

set_option maxRecDepth 100000 in
set_option maxHeartbeats 2000000 in
theorem specLaunch_any (w : World) (a : Option Addr) (len cap : Nat) (up : Bool) (ep sq : Int) (l : List Y) (id un : Int) (h : YIs w.heap.size w a len l) (hlen : len ≤ 1048576) (hcap : a = none → cap = 0) :
    Calls Try.prog 19 #[.agg #[.bool up, .int .i64 ep, .int .i64 sq, .slice a len cap], .int .i64 id, .int .i64 un] w fun en w' => NumEnd w w' up ep (lauS up ep sq l id un) (lauL up ep sq l id un) (lauN up ep sq l id un) en := by
  have hf := Fr2.two w up ep sq a len cap l h 26 26
  have HF := Lib.hid hf
  have hs0 : ((w.alloc (.cells #[.bool up, .int .i64 ep, .int .i64 sq, .slice a len cap] 26)).alloc (.cells #[.bool false, .int .i64 0, .int .i64 0, .slice none 0 0] 26)).heap.size = w.heap.size + 1 + 1 := by simp
  have HS0 := Lib.hid hs0
  have HHL := Lib.hid h.hlen
  clear h hf hs0
  go_enter Try.func19, Try.ntmps19
  go_wp2_with fail
  refine (specCopy_any _ a len cap up ep sq l HF.out.here hlen hcap).mono ?_
  rintro en w4 ⟨⟨a1, cap1, rfl, ho4⟩, hb4⟩
  rw [HS0.out] at ho4
  have hsz4 : w.heap.size + 1 + 1 ≤ w4.heap.size := by have := hb4.size; rw [HS0.out] at this; exact this
  have hbv := bOne w4 (.cells #[.bool up, .int .i64 ep, .int .i64 sq, .slice a1 l.length cap1] 26)
  have HFV := Lib.hid ((HF.out.step hb4).step hbv)
  have HH := Lib.hid (H4.new ho4 hsz4 up ep sq)
  have HF4 := Lib.hid (HF.out.step hb4)
  have HO := Lib.hid (show w.heap.size + 1 < w4.heap.size by omega)
  clear hb4 ho4 hsz4 hbv HF
  obtain ⟨⟨c0, c1, c2, c3⟩, ⟨d0, d1, d2, d3⟩, ⟨f0, f1, f2, f3⟩, g3⟩ := HF4.out.cells
  have hlt0 := HF4.out.b0.lt
  go_wp2_with fail
  refine (specLinkOk_any _ a len cap up ep sq l HFV.out.here).mono ?_
  rintro en w5 ⟨rfl, hb5⟩
  have HF5 := Lib.hid (HFV.out.step hb5)
  have HH5 := Lib.hid (HH.out.below hb5)
  clear hb5 HFV HH HF4 c0 c1 c2 c3 d0 d1 d2 d3 f0 f1 f2 f3 g3 hlt0
  obtain ⟨o, ho⟩ : ∃ o, o = w4.heap.size := ⟨_, rfl⟩
  rw [← ho] at HH5 HO ⊢
  clear ho
  obtain ⟨⟨c0, c1, c2, c3⟩, ⟨d0, d1, d2, d3⟩, ⟨f0, f1, f2, f3⟩, g3⟩ := HF5.out.cells
  obtain ⟨⟨k0, k1, k2, k3⟩, k4, k5, k6⟩ := HH5.out.cells
  by_cases hj : LOk up ep sq l ∧ up = true
  · obtain ⟨hj1, hup⟩ := hj
    subst hup
    have HOK := Lib.hid (lokB_true hj1)
    obtain ⟨s1, hs1⟩ : ∃ s, s = IntKind.i64.wrap (sq + 1) := ⟨_, rfl⟩
    have hs1' := hs1.symm
    have HSQ := Lib.hid (show s1 = sq + 1 by rw [hs1]; exact IntWalk.i64_in _ (by have := hj1.s0; have := hj1.s1; omega))
    rw [lokB_true hj1]
    clear hj1 hs1
    have HH6 := Lib.hid (HH5.out.set2 s1)
    have hb6 := bOne (w5.setCell ⟨o, 2, none⟩ (.int .i64 s1)) (.cells #[.int .i64 s1, .int .i64 id, .int .i64 un] 40)
    have HB6 := Lib.hid hb6
    have HO6 := Lib.hid (HH6.out.own.below hb6)
    have HY6 := Lib.hid (yis_one (w5.setCell ⟨o, 2, none⟩ (.int .i64 s1)) s1 id un 40)
    have hsz6 : (w5.setCell ⟨o, 2, none⟩ (.int .i64 s1)).heap.size = w5.heap.size := by simp
    rw [hsz6] at HY6
    have HBB := Lib.hid (show w.heap.size + 1 + 1 ≤ ((w5.setCell ⟨o, 2, none⟩ (.int .i64 s1)).alloc (.cells #[.int .i64 s1, .int .i64 id, .int .i64 un] 40)).heap.size by have := HH5.out.lo; simp; omega)
    have HLL := Lib.hid (show l.length + 1 ≤ 2000000 by have := HHL.out; omega)
    clear hb6 hsz6
    go_wp2_with (first | (at_builtin; refine wpList_append_run rfl _ _ 24 rfl _ _ rfl rfl (app_yis (cap := 1) Try.underlying24 HO6.out HY6.out (fun e => by cases e) HLL.out HBB.out) ?_; intro v7 w7 happ; obtain ⟨a7, n7, cap7, rfl⟩ := happ.form; have HA := Lib.hid happ; obtain ⟨q1, q2, q3⟩ := HH6.out.at_ HB6.out happ; have q10 := q1.c0; have q11 := q1.c1; have q12 := q1.c2; have q13 := q1.c3; have q23 := q2 3; have q30 := q1.lt; clear happ q1 q2 q3) | fail)
    have hga := HH6.out.app HB6.out HA.out
    have hbs : Below (w.heap.size + 1 + 1) w5 (w5.setCell ⟨o, 2, none⟩ (.int .i64 s1)) := (Below.refl _ _).setCell (by have := HH5.out.lo; simpa using this) _
    have HF8 := Lib.hid (HF5.out.step' (hbs.trans hga.2))
    have HH8 := Lib.hid hga.1
    clear hga hbs HA HO6 HY6 HB6 q10 q11 q12 q13 q23 q30 c0 c1 c2 c3 d0 d1 d2 d3 f0 f1 f2 f3 g3 k0 k1 k2 k3 k4 k5 k6
    obtain ⟨w8, hw8⟩ : ∃ w8, w8 = w7.setCell ⟨o, 3, none⟩ (.slice a7 n7 cap7) := ⟨_, rfl⟩
    rw [← hw8] at HF8 HH8 ⊢
    clear hw8
    refine (specLinkOk_any _ a7 n7 cap7 true ep s1 (l ++ [(s1, id, un)]) HH8.out.own.isN).mono ?_
    rintro en w9 ⟨rfl, hb9⟩
    have HF9 := Lib.hid (HF8.out.step hb9)
    have HH9 := Lib.hid (HH8.out.below hb9)
    clear hb9 HF8 HH8
    obtain ⟨⟨c0, c1, c2, c3⟩, ⟨d0, d1, d2, d3⟩, ⟨f0, f1, f2, f3⟩, g3⟩ := HF9.out.cells
    obtain ⟨⟨k0, k1, k2, k3⟩, k4, k5, k6⟩ := HH9.out.cells
    cases hk : lokB true ep s1 (l ++ [(s1, id, un)]) with
    | false =>
      have HJ := Lib.hid (show lauB true ep sq l id un = false by unfold lauB; rw [← HSQ.out, hk, HOK.out]; rfl)
      clear hk
      go_wp2_with fail
      refine (specCopy_any _ a len cap true ep sq l HF9.out.here hlen hcap).mono ?_
      rintro en w10 ⟨⟨a2, cap2, rfl, ho10⟩, hb10⟩
      have HF10 := Lib.hid (HF9.out.step hb10)
      have HE := Lib.hid (fun x0 x1 x2 x3 => HF10.out.end_ ho10 HF9.out.b1.lt x0 x1 x2 x3)
      clear hb10 ho10 c0 c1 c2 c3 d0 d1 d2 d3 f0 f1 f2 f3 g3 k0 k1 k2 k3 k4 k5 k6
      obtain ⟨⟨c0, c1, c2, c3⟩, ⟨d0, d1, d2, d3⟩, ⟨f0, f1, f2, f3⟩, g3⟩ := HF10.out.cells
      go_wp2_with fail
      refine bodyPost_ret (v := .tuple #[.agg #[.bool true, .int .i64 ep, .int .i64 sq, .slice a2 l.length cap2], .int .i64 0]) (by simp [results, Try.results19, go_sem, d0, d1, d2, d3]) rfl ?_
      unfold lauS lauL lauN
      rw [HJ.out]
      exact ⟨⟨a2, cap2, rfl, (HE.out _ _ _ _).1⟩, (HE.out _ _ _ _).2⟩
    | true =>
      have HJ := Lib.hid (show lauB true ep sq l id un = true by unfold lauB; rw [← HSQ.out, hk, HOK.out]; rfl)
      have HE := Lib.hid (fun x0 x1 x2 x3 => HF9.out.end_ HH9.out.own (by omega) x0 x1 x2 x3)
      have HN7 := Lib.hid HH9.out.own.is.1
      have hlt0 := HF9.out.b1.lt
      have hne : o ≠ w.heap.size + 1 := by have := HO.out; omega
      clear hk
      go_wp2_with fail
      go_region
      all_goals
        go_wp2_with fail
        refine bodyPost_ret (v := .tuple #[.agg #[.bool true, .int .i64 ep, .int .i64 s1, .slice a7 n7 cap7], .int .i64 s1]) (by simp [results, Try.results19, go_sem, d0, d1, d2, d3]) rfl ?_
        unfold lauS lauL lauN
        rw [HJ.out, if_pos rfl, if_pos rfl, if_pos rfl, ← HSQ.out]
        refine ⟨⟨a7, cap7, by rw [HN7.out], ?_⟩, below_drew' (HE.out _ _ _ _).2⟩
        rw [← HN7.out]
        exact (HE.out _ _ _ _).1.drew'
  · have HJ := Lib.hid (show lauB up ep sq l id un = false by
      unfold lauB
      by_cases h1 : LOk up ep sq l
      · have h3 : up = false := by cases up with | false => rfl | true => exact absurd ⟨h1, rfl⟩ hj
        rw [lokB_false (sq := sq + 1) (fun hw => by have := hw.hup (by simp); rw [h3] at this; cases this)]
        simp
      · rw [lokB_false h1]; rfl)
    have hq : lokB up ep sq l = false ∨ (lokB up ep sq l = true ∧ up = false) := by
      by_cases h1 : LOk up ep sq l
      · exact .inr ⟨lokB_true h1, by cases up with | false => rfl | true => exact absurd ⟨h1, rfl⟩ hj⟩
      · exact .inl (lokB_false h1)
    have HE := Lib.hid (fun x0 x1 x2 x3 => HF5.out.end_ HH5.out.own (by omega) x0 x1 x2 x3)
    clear hj
    rcases hq with hq | ⟨hq, hup⟩
    · rw [hq]
      clear hq
      go_wp2_with fail
      refine bodyPost_ret (v := .tuple #[.agg #[.bool up, .int .i64 ep, .int .i64 sq, .slice a1 l.length cap1], .int .i64 0]) (by simp [results, Try.results19, go_sem, d0, d1, d2, d3]) rfl ?_
      unfold lauS lauL lauN
      rw [HJ.out]
      exact ⟨⟨a1, cap1, rfl, (HE.out _ _ _ _).1⟩, (HE.out _ _ _ _).2⟩
    · rw [hq]
      clear hq
      subst hup
      go_wp2_with fail
      refine bodyPost_ret (v := .tuple #[.agg #[.bool false, .int .i64 ep, .int .i64 sq, .slice a1 l.length cap1], .int .i64 0]) (by simp [results, Try.results19, go_sem, d0, d1, d2, d3]) rfl ?_
      unfold lauS lauL lauN
      rw [HJ.out]
      exact ⟨⟨a1, cap1, rfl, (HE.out _ _ _ _).1⟩, (HE.out _ _ _ _).2⟩
end Go.Proofs.Ytjfhdelphfgojaa.Lnk
