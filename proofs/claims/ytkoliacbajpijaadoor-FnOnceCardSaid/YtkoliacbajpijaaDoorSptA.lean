/-
  Ints that grow beside a list in a box.
-/
import Derived.Test.YtkoliacbajpijaaDoorSpdW
namespace Go.Proofs.YtkoliacbajpijaaDoor.Whl
open Go.RowKit Go.Maps
set_option linter.unusedVariables false

theorem wpList_append_run {P : Program} {w : World} {ops : Array Oper} {rest : List Oper} {o : Oper} {a : Act} {Q : Exit → Act → World → Prop} (hgd : o.guard = none) (s x : Operand) (t : TypeId)
    (ho : o.op = .call { callee := .builtin .append, args := #[s, x], argTypes := #[t, t] }) (v sx : Value) (hs : a.eval s = v) (hx : a.eval x = sx) {R : Value → World → Prop}
    (hr : ∃ v' w', (Builtin.append_ #[t, t] o.type #[v, sx]).run P w = .ok v' w' ∧ R v' w') (h : ∀ v' w', R v' w' → wpList P ops Q rest (a.put o.dst v') w') : wpList P ops Q (o :: rest) a w :=
  wpList_plain hgd fun _ hK => wp_append_run s x t ho v sx hs hx hr fun v' w' h2 => hK _ _ (h v' w' h2)
/-- what an append of ints leaves -/
def AppI (B : Nat) (w : World) (v : Value) (xs : List Int) (v' : Value) (w' : World) : Prop :=
  IOwn B w' v' xs ∧ w.grownBy w' v.ownBlock ∧ (v'.ownBlock = v.ownBlock ∨ v'.ownBlock = some w.heap.size)
theorem app_int {w : World} {B : Nat} {v : Value} {xs : List Int} {b : Nat} {x : Int} (hown : IOwn B w v xs) (hc : ∀ (j : Nat) (u : Value), [Value.int .i64 x][j]? = some u → w.cell? ((⟨b, 0, none⟩ : Addr).add j) = some u) (hx : xs.length + 1 ≤ 2000000) (hB : B ≤ w.heap.size) :
    ∃ v' w', (Builtin.append_ #[40, 40] 40 #[v, .slice (some ⟨b, 0, none⟩) 1 1]).run Tryd.prog w = .ok v' w' ∧ AppI B w v (xs ++ [x]) v' w' := by
  obtain ⟨i0, hi, hz0, hz1, hz2⟩ := info_parts infoInt
  obtain ⟨v', w', hr, h2, h3, _, h5⟩ := run_append_own_at (P := Tryd.prog) w B 40 40 3 i0 _ 1 8 Tryd.underlying40 hi hz0 hz1 hz2 rfl (by omega) v xs.length (xs.map fun x => .int .i64 x) hown ⟨b, 0, none⟩ 1 1 [.int .i64 x] rfl hc (by intro u hu; simp at hu; subst hu; rfl) (by unfold maxLen; omega) (by omega) hB
  exact ⟨v', w', hr, by unfold IOwn; rw [List.length_append, List.map_append]; exact h2, h3, h5⟩
theorem AppI.form {B : Nat} {w w' : World} {v v' : Value} {xs : List Int} (h : AppI B w v xs v' w') : ∃ a n c, v' = Value.slice a n c := by
  obtain ⟨a, c, e⟩ := h.1.shape
  exact ⟨a, _, c, e⟩
/-- rows of timers and of ints are no one's both -/
theorem own_sep {B Bi : Nat} {w : World} {v vi : Value} {S : List T} {xs : List Int} (h : TOwn B w 28 v S) (hi : IOwn Bi w vi xs) : vi.ownBlock = none ∨ vi.ownBlock ≠ v.ownBlock := by
  rcases hi.2 with ⟨e, _⟩ | ⟨g, c, cur, e, _, hg, _⟩
  · exact .inl (by rw [e]; rfl)
  · refine .inr ?_
    rcases h.2 with ⟨e2, _⟩ | ⟨g2, c2, cur2, e2, _, hg2, _⟩
    · rw [e, e2]; simp [Value.ownBlock]
    · rw [e, e2]
      intro e3
      simp only [Value.ownBlock, Option.some.injEq] at e3
      rw [e3, hg2] at hg
      injection hg with hg
      injection hg with _ h2
      exact absurd h2 (by decide)
/-- a list in a box and ints beside it -/
structure GrI (w : World) (o B Bi : Nat) (u v : Value) (S : List T) (vi : Value) (xs : List Int) : Prop where
  gr : Gr w o B u v S
  own : IOwn Bi w vi xs
  ne : vi.ownBlock ≠ some o
section
variable {w w1 w2 : World} {o B Bi : Nat} {u v v' vi vi' : Value} {S S' : List T} {xs xs' : List Int}
theorem GrI.below (h : GrI w o B Bi u v S vi xs) (hb : Below w.heap.size w w1) : GrI w1 o B Bi u v S vi xs := ⟨h.gr.below hb, h.own.below hb, h.ne⟩
theorem GrI.app (h : GrI w o B Bi u v S vi xs) (hb : Below w.heap.size w w1) (ha : AppT B w1 v S' v' w2) (ho : B ≤ o) : GrI (w2.setCell ⟨o, 1, none⟩ v') o B Bi u v' S' vi xs ∧ Below B w (w2.setCell ⟨o, 1, none⟩ v') := by
  have h1 := h.gr.app hb ha ho
  refine ⟨⟨h1.1, ?_, h.ne⟩, h1.2⟩
  exact ((h.own.below hb).grown ha.2.1 (own_sep (h.gr.own.below hb) (h.own.below hb))).grown (setCell_grown w2 o 1 v') (.inr h.ne)
theorem GrI.appI (h : GrI w o B Bi u v S vi xs) (hb : Below w.heap.size w w1) (ha : AppI Bi w1 vi xs' vi' w2) (hBi : Bi ≤ w.heap.size) : GrI w2 o B Bi u v S vi' xs' ∧ Below Bi w w2 := by
  have h1 := h.below hb
  have hg := ha.2.1
  have hs : v.ownBlock = none ∨ v.ownBlock ≠ vi.ownBlock := by
    rcases own_sep h.gr.own h.own with e | e
    · cases hv : v.ownBlock with
      | none => exact .inl rfl
      | some k => rw [e]; exact .inr (by simp)
    · exact .inr (Ne.symm e)
  refine ⟨⟨⟨h1.gr.box.grown hg h.ne, ⟨?_, ?_⟩, h1.gr.own.grown hg hs, h.gr.ne⟩, ha.1, ?_⟩, ?_⟩
  · exact (hg.frozen_far ⟨o, 0, none⟩ h1.gr.box.lt (Ne.symm h.ne)).trans h1.gr.fro.f0
  · exact (hg.frozen_far ⟨o, 1, none⟩ h1.gr.box.lt (Ne.symm h.ne)).trans h1.gr.fro.f1
  · rcases ha.2.2 with e | e
    · rw [e]; exact h.ne
    · rw [e]
      have := h1.gr.box.lt
      simp
      omega
  · exact (hb.mono hBi).grown hg (Nat.le_trans hBi hb.size) (fun k hk => (World.ownsRow.lt h.own k hk).1)
end
theorem inil (w : World) : IOwn w.heap.size (w.alloc (.cells #[] 3)) (.slice (some ⟨w.heap.size, 0, none⟩) 0 0) [] :=
  World.ownsRow_lit (base := w.heap.size) (e := 3) (size := 1) w #[] 0 (Nat.le_refl _) (by unfold maxLen; omega) rfl
theorem rest_snoc_gt {l : List T} {k : Nat} (h : k < l.length) {to : Int} (hg : to < l[k].1) : restL (l.take (k + 1)) to = restL (l.take k) to ++ [l[k]] ∧ dueL (l.take (k + 1)) to = dueL (l.take k) to := by
  rw [List.take_succ_eq_append_getElem h]
  unfold restL dueL
  rw [List.filter_append, List.filter_append]
  constructor
  · congr 1
    simp [hg]
  · have : ¬ l[k].1 ≤ to := by omega
    simp [this]
theorem rest_snoc_le {l : List T} {k : Nat} (h : k < l.length) {to : Int} (hg : l[k].1 ≤ to) : restL (l.take (k + 1)) to = restL (l.take k) to ∧ dueL (l.take (k + 1)) to = dueL (l.take k) to ++ [l[k]] := by
  rw [List.take_succ_eq_append_getElem h]
  unfold restL dueL
  rw [List.filter_append, List.filter_append]
  constructor
  · have : ¬ to < l[k].1 := by omega
    simp [this]
  · congr 1
    simp [hg]
end Go.Proofs.YtkoliacbajpijaaDoor.Whl
