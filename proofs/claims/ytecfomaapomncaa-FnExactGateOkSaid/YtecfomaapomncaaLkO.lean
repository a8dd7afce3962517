/-
  How a link that came in by value is read: a bool, two numbers and a slice of flies.
-/
import Derived.Test.YtecfomaapomncaaLkA
import Derived.Deep.SlicePairs
import Derived.Lib.SmallJoins
import Derived.OpenShut
namespace Go.Proofs.Ytecfomaapomncaa.Lnk
open Go.ChangeShapes Go.WideShapes Go.RowKit Go.Joins Go.Deep
set_option linter.unusedVariables false

theorem add_none (b off i : Nat) : (⟨b, off, none⟩ : Addr).add i = ⟨b, off + i, none⟩ := by
  unfold Addr.add
  split
  · rename_i h; subst h; rfl
  · rfl
section
variable {H : Type} {enc : TypeId × Value → H} {P : Program} {w : World} {base : Nat} {spare : Nat → Bool} {held : Bool}
theorem num_at {t : TypeId} {n : Nat} {c : Value} {y : DataW H × List MemPlace} (ht : P.underlying t = some (.int .i64)) (h : DataW.trod enc P w base spare held n t [c] = some y) : ∃ x : Int, c = .int .i64 x ∧ (Lit.int .i64 x).wf = true := by
  obtain ⟨x, ex, _, wx⟩ := DataW.trod_int ht h
  simp only [List.cons.injEq, and_true] at ex
  exact ⟨x, ex, wx⟩
theorem bool_at {t : TypeId} {n : Nat} {c : Value} {y : DataW H × List MemPlace} (ht : P.underlying t = some .bool) (h : DataW.trod enc P w base spare held n t [c] = some y) : ∃ x : Bool, c = .bool x := by
  obtain ⟨x, ex, _⟩ := DataW.trod_bool ht h
  simp only [List.cons.injEq, and_true] at ex
  exact ⟨x, ex⟩
theorem open_flies {t e : TypeId} {f0 f1 f2 : Field} {fuel : Nat} {v : Value} {x : DataW H × List MemPlace} (ht : P.underlying t = some (.slice e)) (he : P.underlying e = some (.struct #[f0, f1, f2]))
    (ce : P.cellsOf e = 3) (o0 : f0.offset = 0) (o1 : f1.offset = 1) (o2 : f2.offset = 2) (i0 : P.underlying f0.type = some (.int .i64)) (i1 : P.underlying f1.type = some (.int .i64)) (i2 : P.underlying f2.type = some (.int .i64)) (c0 : P.cellsOf f0.type = 1) (c1 : P.cellsOf f1.type = 1) (c2 : P.cellsOf f2.type = 1)
    (h : DataW.trod enc P w base spare held fuel t [v] = some x) :
    ∃ a len cap l, v = .slice a len cap ∧ YIs w.heap.size w a len l := by
  rcases open_slice ht h with ⟨hcs, _⟩ | ⟨a, len, cap, m, n, D, Pl, hcs, hb, hl, hm, hmm, hx, hi⟩
  · simp only [List.cons.injEq, and_true] at hcs
    exact ⟨none, 0, 0, [], hcs, YIs.nil _ _ _⟩
  · simp only [List.cons.injEq, and_true] at hcs
    have hlm : len ≤ m := by rw [hmm]; split <;> omega
    have each : ∀ i, i < len → ∃ q : Int × Int × Int, w.cell? (a.add (i * 3)) = some (.int .i64 q.1) ∧ w.cell? (a.add (i * 3 + 1)) = some (.int .i64 q.2.1) ∧ w.cell? (a.add (i * 3 + 2)) = some (.int .i64 q.2.2) := by
      intro i hil
      obtain ⟨cs', h1, h2⟩ := hi i (by omega)
      rw [ce] at h1
      obtain ⟨_, hlen, hcell⟩ := World.cells?_some h1
      obtain ⟨xs, k, hk, hxy, _, hxl, hf⟩ := DataW.trod_struct he h2
      match xs, hxl, cs', hlen with
      | [y0, y1, y2], _, [v0, v1, v2], _ =>
        have g0 := hf 0 f0 rfl
        have g1 := hf 1 f1 rfl
        have g2 := hf 2 f2 rfl
        simp [o0, o1, o2, c0, c1, c2] at g0 g1 g2
        have e0 := hcell 0 (by omega)
        have e1 := hcell 1 (by omega)
        have e2 := hcell 2 (by omega)
        rw [add_add] at e0 e1 e2
        obtain ⟨n0, rfl, _⟩ := num_at i0 g0
        obtain ⟨n1, rfl, _⟩ := num_at i1 g1
        obtain ⟨n2, rfl, _⟩ := num_at i2 g2
        exact ⟨(n0, n1, n2), by simpa using e0, by simpa using e1, by simpa using e2⟩
    obtain ⟨q, hq⟩ := choose_lt each
    refine ⟨some a, len, cap, (List.range len).map q, hcs, by simp, by omega, fun k hk => ?_⟩
    simp at hk
    obtain ⟨h0, h1, h2⟩ := hq k hk
    obtain ⟨b, off, spot⟩ := a
    have hs : spot = none := by
      have := (hq 0 (by omega)).1
      simp only [Nat.zero_mul] at this
      exact World.cell?_spot this
    subst hs
    rw [add_none] at h0 h1 h2
    have hlt := World.block_lt_of_cell? w _ h0
    refine ⟨b, off, rfl, hlt, ?_, ?_, ?_⟩
    · simpa using h0
    · simpa [Nat.add_assoc] using h1
    · simpa [Nat.add_assoc] using h2
theorem open_link {r : Reach} {b0 : Nat} {t e : TypeId} {f0 f1 f2 f3 g0 g1 g2 : Field} {v : Value} {d : DataW H} {p : List MemPlace} (hs : P.underlying t = some (.struct #[f0, f1, f2, f3])) (hone : oneCellFields P #[f0, f1, f2, f3] = true) (hC : P.cellsOf t = 4)
    (i0 : P.underlying f0.type = some .bool) (i1 : P.underlying f1.type = some (.int .i64)) (i2 : P.underlying f2.type = some (.int .i64)) (ht : P.underlying f3.type = some (.slice e)) (he : P.underlying e = some (.struct #[g0, g1, g2]))
    (ce : P.cellsOf e = 3) (o0 : g0.offset = 0) (o1 : g1.offset = 1) (o2 : g2.offset = 2) (j0 : P.underlying g0.type = some (.int .i64)) (j1 : P.underlying g1.type = some (.int .i64)) (j2 : P.underlying g2.type = some (.int .i64)) (c0 : P.cellsOf g0.type = 1) (c1 : P.cellsOf g1.type = 1) (c2 : P.cellsOf g2.type = 1)
    (hv : Value.okWide P w r b0 t v) (h : DataW.Trod enc P w base spare held t v d p) :
    ∃ (a : Option Addr) (len cap : Nat) (up : Bool) (ep sq : Int) (l : List Y), v = .agg #[.bool up, .int .i64 ep, .int .i64 sq, .slice a len cap] ∧ (Lit.int .i64 ep).wf = true ∧ (Lit.int .i64 sq).wf = true ∧ YIs w.heap.size w a len l := by
  obtain ⟨x0, x1, x2, x3, y0, y1, y2, y3, n, rfl, rfl, rfl, t0, t1, t2, t3⟩ := Joins.open_agg4 hs hone hC hv h
  obtain ⟨up, rfl⟩ := bool_at i0 t0
  obtain ⟨ep, rfl, w1⟩ := num_at i1 t1
  obtain ⟨sq, rfl, w2⟩ := num_at i2 t2
  obtain ⟨a, len, cap, l, rfl, hl⟩ := open_flies ht he ce o0 o1 o2 j0 j1 j2 c0 c1 c2 t3
  exact ⟨a, len, cap, up, ep, sq, l, rfl, w1, w2, hl⟩
end
end Go.Proofs.Ytecfomaapomncaa.Lnk
