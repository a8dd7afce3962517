/-
  How a message that came in by value is read: eight numbers and a string.
-/
import Derived.Test.YtjcopkjapnieoaaDoorOpnF
namespace Go.Proofs.YtjcopkjapnieoaaDoor.Evt
open Go.ChangeShapes Go.WideShapes Go.RowKit Go.Deep Go.Proofs.YtjcopkjapnieoaaDoor.Frm
set_option linter.unusedVariables false

theorem array9 {α : Type} {cs : Array α} (h : cs.size = 9) : ∃ c0 c1 c2 c3 c4 c5 c6 c7 c8, cs = #[c0, c1, c2, c3, c4, c5, c6, c7, c8] := by
  obtain ⟨l⟩ := cs
  match l, h with
  | [c0, c1, c2, c3, c4, c5, c6, c7, c8], _ => exact ⟨c0, c1, c2, c3, c4, c5, c6, c7, c8, rfl⟩

section
variable {H : Type} {enc : TypeId × Value → H} {P : Program} {w : World} {base : Nat} {spare : Nat → Bool} {held : Bool}
theorem open_event {r : Reach} {b0 : Nat} {t : TypeId} {f0 f1 f2 f3 f4 f5 f6 f7 f8 : Field} {v : Value} {d : DataW H} {p : List MemPlace} (hs : P.underlying t = some (.struct #[f0, f1, f2, f3, f4, f5, f6, f7, f8])) (hone : oneCellFields P #[f0, f1, f2, f3, f4, f5, f6, f7, f8] = true) (hC : P.cellsOf t = 9)
    (i0 : P.underlying f0.type = some (.int .i64)) (i1 : P.underlying f1.type = some (.int .i64)) (i2 : P.underlying f2.type = some (.int .i64)) (i3 : P.underlying f3.type = some .string) (i4 : P.underlying f4.type = some (.int .i64)) (i5 : P.underlying f5.type = some (.int .i64)) (i6 : P.underlying f6.type = some (.int .i64)) (i7 : P.underlying f7.type = some (.int .i64)) (i8 : P.underlying f8.type = some (.int .i64))
    (hv : Value.okWide P w r b0 t v) (h : DataW.Trod enc P w base spare held t v d p) :
    ∃ (id dv co : Int) (b : ByteArray) (at_ tt tr ne st : Int), v = .agg #[.int .i64 id, .int .i64 dv, .int .i64 co, .string b, .int .i64 at_, .int .i64 tt, .int .i64 tr, .int .i64 ne, .int .i64 st] ∧ (Lit.int .i64 id).wf = true ∧ (Lit.int .i64 dv).wf = true ∧ (Lit.int .i64 co).wf = true ∧ (Lit.int .i64 at_).wf = true ∧ (Lit.int .i64 tt).wf = true ∧ (Lit.int .i64 tr).wf = true ∧ (Lit.int .i64 ne).wf = true ∧ (Lit.int .i64 st).wf = true ∧ b.size ≤ maxLen := by
  obtain ⟨cs, rfl, hsz⟩ := okWide_struct hs hv
  obtain ⟨c0, c1, c2, c3, c4, c5, c6, c7, c8, rfl⟩ := array9 (hsz.trans hC)
  obtain ⟨fuel, hf⟩ := h
  obtain ⟨xs, n, _, _, _, hlen, hfs⟩ := DataW.trod_struct hs hf
  have each : ∀ (j : Nat) (f : Field) (c : Value), #[f0, f1, f2, f3, f4, f5, f6, f7, f8][j]? = some f → ([c0, c1, c2, c3, c4, c5, c6, c7, c8].drop j).take 1 = [c] → ∃ y, DataW.trod enc P w base spare held n f.type [c] = some y := by
    intro j f c hj hc
    obtain ⟨o, k⟩ := hone_of hone j f hj
    have hlt : j < 9 := (Array.getElem?_eq_some_iff.1 hj).1
    obtain ⟨y, hy⟩ := some_at hlen hlt
    refine ⟨y, ?_⟩
    have := hfs j f hj
    rw [o, k, hy] at this
    simpa [Value.cells, hc] using this
  obtain ⟨y0, t0⟩ := each 0 f0 c0 rfl rfl
  obtain ⟨y1, t1⟩ := each 1 f1 c1 rfl rfl
  obtain ⟨y2, t2⟩ := each 2 f2 c2 rfl rfl
  obtain ⟨y3, t3⟩ := each 3 f3 c3 rfl rfl
  obtain ⟨y4, t4⟩ := each 4 f4 c4 rfl rfl
  obtain ⟨y5, t5⟩ := each 5 f5 c5 rfl rfl
  obtain ⟨y6, t6⟩ := each 6 f6 c6 rfl rfl
  obtain ⟨y7, t7⟩ := each 7 f7 c7 rfl rfl
  obtain ⟨y8, t8⟩ := each 8 f8 c8 rfl rfl
  obtain ⟨id, rfl, w0⟩ := num_at i0 t0
  obtain ⟨dv, rfl, w1⟩ := num_at i1 t1
  obtain ⟨co, rfl, w2⟩ := num_at i2 t2
  obtain ⟨b, eb, _, hb⟩ := DataW.trod_string i3 t3
  simp only [List.cons.injEq, and_true] at eb
  subst eb
  obtain ⟨at_, rfl, w4⟩ := num_at i4 t4
  obtain ⟨tt, rfl, w5⟩ := num_at i5 t5
  obtain ⟨tr, rfl, w6⟩ := num_at i6 t6
  obtain ⟨ne, rfl, w7⟩ := num_at i7 t7
  obtain ⟨st, rfl, w8⟩ := num_at i8 t8
  exact ⟨id, dv, co, b, at_, tt, tr, ne, st, rfl, w0, w1, w2, w4, w5, w6, w7, w8, hb⟩
end
end Go.Proofs.YtjcopkjapnieoaaDoor.Evt
