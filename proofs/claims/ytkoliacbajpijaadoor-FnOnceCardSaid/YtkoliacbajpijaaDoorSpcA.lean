/-
  An append as one step of a region that draws its order, by its run's equation; an append of timers that can be read.
-/
import Derived.Test.YtkoliacbajpijaaDoorIorW
import Derived.Test.YtkoliacbajpijaaDoorWokS
import Derived.Laws.AppendOwnNone
import Derived.Deep.AppendLies
namespace Go.Proofs.YtkoliacbajpijaaDoor.Whl
open Go.RowKit Go.Maps
set_option linter.unusedVariables false

theorem wp_append_run {P : Program} {w : World} {o : Oper} {a : Act} {K : Act → World → Prop} {Q : Exit → Act → World → Prop} (s x : Operand) (t : TypeId)
    (ho : o.op = .call { callee := .builtin .append, args := #[s, x], argTypes := #[t, t] }) (v sx : Value) (hs : a.eval s = v) (hx : a.eval x = sx) {R : Value → World → Prop}
    (hr : ∃ v' w', (Builtin.append_ #[t, t] o.type #[v, sx]).run P w = .ok v' w' ∧ R v' w') (h : ∀ v' w', R v' w' → K (a.put o.dst v') w') : o.wp P a w K Q := by
  obtain ⟨v', w', hr, h2⟩ := hr
  unfold Oper.wp execOp
  simp only [ho, resolve, invoke, builtin, Sem.run_bind, Sem.run_pure, Result.andThen_ok, List.map_toArray, List.map_cons, List.map_nil, hs, hx, hr]
  exact h v' w' h2
theorem step_append_run {P : Program} {w : World} {ops : Array Oper} {o : Oper} {a : Act} {K : Act → World → Prop} {Q : Exit → Act → World → Prop} {E : Prop} (hgd : o.guard = none) (s x : Operand) (t : TypeId)
    (ho : o.op = .call { callee := .builtin .append, args := #[s, x], argTypes := #[t, t] }) (v sx : Value) (hs : a.eval s = v) (hx : a.eval x = sx) {R : Value → World → Prop}
    (hr : ∃ v' w', (Builtin.append_ #[t, t] o.type #[v, sx]).run P w = .ok v' w' ∧ R v' w') (h : ∀ v' w', R v' w' → K (a.put o.dst v') w') :
    if Region.wanted o (yielded ops a.tmps) = true then Oper.wp P o a w K Q else E := by
  have hw : Region.wanted o (yielded ops a.tmps) = true := by simp [Region.wanted, hgd]
  rw [if_pos hw]
  exact wp_append_run s x t ho v sx hs hx hr h
/-- what an append of timers leaves -/
def AppT (B : Nat) (w : World) (v : Value) (xs : List T) (v' : Value) (w' : World) : Prop :=
  TOwn B w' 28 v' xs ∧ w.grownBy w' v.ownBlock ∧ (v'.ownBlock = v.ownBlock ∨ v'.ownBlock = some w.heap.size)
theorem app_tis {w : World} {B : Nat} {v : Value} {xs l : List T} {a : Option Addr} {len cap : Nat} (hown : TOwn B w 28 v xs) (hs : TIs w.heap.size w a len l) (hcap : a = none → cap = 0) (hx : xs.length + len ≤ 2000000) (hB : B ≤ w.heap.size) :
    ∃ v' w', (Builtin.append_ #[24, 24] 24 #[v, .slice a len cap]).run Tryd.prog w = .ok v' w' ∧ AppT B w v (xs ++ l) v' w' := by
  obtain ⟨i0, hi, hz0, hz1, hz2⟩ := info_parts infoTimer
  cases a with
  | none =>
    have hl0 : l = [] := by
      cases hc : l with
      | nil => rfl
      | cons t r =>
        obtain ⟨b, off, e, _⟩ := hs.cell 0 (by rw [hc]; simp)
        cases e
    subst hl0
    have hl1 : len = 0 := by have := hs.hlen; simpa using this.symm
    subst hl1
    rw [hcap rfl, List.append_nil]
    exact ⟨v, w, run_append_owned_none (P := Tryd.prog) (w := w) B 24 24 28 i0 2 Tryd.underlying24 hi v xs.length (flat xs) hown, hown, World.grownBy.refl _ _, .inl rfl⟩
  | some ad =>
    have hlen := hs.hlen
    obtain ⟨v', w', hr, h2, h3, _, h5⟩ := run_append_own_at (P := Tryd.prog) w B 24 24 28 i0 _ 2 16 Tryd.underlying24 hi hz0 hz1 hz2 rfl (by omega) v xs.length (flat xs) hown ad len cap (flat l) (by rw [flat_len, hlen]) hs.flat (flat_one l) (by unfold maxLen; omega) (by omega) hB
    exact ⟨v', w', hr, by unfold TOwn; rw [List.length_append, flat_append, hlen]; exact h2, h3, h5⟩
/-- one timer, in a block of its own -/
theorem tis_one (w : World) (x y : Int) : TIs (w.alloc (.cells #[.int .i64 x, .int .i64 y] 28)).heap.size (w.alloc (.cells #[.int .i64 x, .int .i64 y] 28)) (some ⟨w.heap.size, 0, none⟩) 1 [(x, y)] := by
  have h := Bx.new w (.int .i64 x) (.int .i64 y) 28
  refine ⟨rfl, by unfold maxLen; omega, fun k hk => ?_⟩
  have : k = 0 := by simp at hk; exact hk
  subst this
  exact ⟨_, _, rfl, h.lt, h.c0, h.c1⟩
/-- what is behind an append -/
theorem AppT.below {B0 B : Nat} {w0 w w' : World} {v v' : Value} {xs : List T} (h : AppT B w v xs v' w') (hb : Below B0 w0 w) (hB : B0 ≤ w0.heap.size) (hv : ∀ k, v.ownBlock = some k → B0 ≤ k) : Below B0 w0 w' := hb.grown h.2.1 (Nat.le_trans hB hb.size) hv
theorem TOwn.drew' {B : Nat} {w : World} {E : TypeId} {v : Value} {l : List T} (h : TOwn B w E v l) : TOwn B w.drew E v l := h.grown (World.grownBy_drew' _ none) (by cases hv : v.ownBlock with | none => exact .inl rfl | some k => exact .inr (by simp))
theorem tnil (w : World) : TOwn w.heap.size (w.alloc (.cells #[] 28)) 28 (.slice (some ⟨w.heap.size, 0, none⟩) 0 0) [] :=
  World.ownsRow_lit (base := w.heap.size) (e := 28) (size := 2) w #[] 0 (Nat.le_refl _) (by unfold maxLen; omega) rfl
end Go.Proofs.YtkoliacbajpijaaDoor.Whl
