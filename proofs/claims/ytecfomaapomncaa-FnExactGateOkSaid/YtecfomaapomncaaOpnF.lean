/-
  How a frame that came in by value is read: five numbers and a string.
-/
import Derived.Test.YtecfomaapomncaaProg
import Derived.WalkKit
import Derived.ProofKit
import Derived.OpenShut
import Derived.Lib.SmallJoins
namespace Go.Proofs.Ytecfomaapomncaa.Frm
open Go.ChangeShapes Go.WideShapes Go.RowKit Go.Deep
set_option linter.unusedVariables false

theorem array6 {α : Type} {cs : Array α} (h : cs.size = 6) : ∃ c0 c1 c2 c3 c4 c5, cs = #[c0, c1, c2, c3, c4, c5] := by
  obtain ⟨l⟩ := cs
  match l, h with
  | [c0, c1, c2, c3, c4, c5], _ => exact ⟨c0, c1, c2, c3, c4, c5, rfl⟩
theorem some_at {α : Type} {xs : List α} {n i : Nat} (h : xs.length = n) (hi : i < n) : ∃ y, xs[i]? = some y := ⟨xs[i]'(by omega), List.getElem?_eq_getElem (by omega)⟩

section
variable {H : Type} {enc : TypeId × Value → H} {P : Program} {w : World} {base : Nat} {spare : Nat → Bool} {held : Bool}
theorem num_at {t : TypeId} {n : Nat} {c : Value} {y : DataW H × List MemPlace} (ht : P.underlying t = some (.int .i64)) (h : DataW.trod enc P w base spare held n t [c] = some y) : ∃ x : Int, c = .int .i64 x ∧ (Lit.int .i64 x).wf = true := by
  obtain ⟨x, ex, _, wx⟩ := DataW.trod_int ht h
  simp only [List.cons.injEq, and_true] at ex
  exact ⟨x, ex, wx⟩
theorem open_frame {r : Reach} {b0 : Nat} {t : TypeId} {f0 f1 f2 f3 f4 f5 : Field} {v : Value} {d : DataW H} {p : List MemPlace} (hs : P.underlying t = some (.struct #[f0, f1, f2, f3, f4, f5])) (hone : oneCellFields P #[f0, f1, f2, f3, f4, f5] = true) (hC : P.cellsOf t = 6)
    (i0 : P.underlying f0.type = some (.int .i64)) (i1 : P.underlying f1.type = some (.int .i64)) (i2 : P.underlying f2.type = some (.int .i64)) (i3 : P.underlying f3.type = some (.int .i64)) (i4 : P.underlying f4.type = some (.int .i64)) (i5 : P.underlying f5.type = some .string)
    (hv : Value.okWide P w r b0 t v) (h : DataW.Trod enc P w base spare held t v d p) :
    ∃ (k dv e s i : Int) (b : ByteArray), v = .agg #[.int .i64 k, .int .i64 dv, .int .i64 e, .int .i64 s, .int .i64 i, .string b] ∧ (Lit.int .i64 k).wf = true ∧ (Lit.int .i64 dv).wf = true ∧ (Lit.int .i64 e).wf = true ∧ (Lit.int .i64 s).wf = true ∧ (Lit.int .i64 i).wf = true ∧ b.size ≤ maxLen := by
  obtain ⟨cs, rfl, hsz⟩ := okWide_struct hs hv
  obtain ⟨c0, c1, c2, c3, c4, c5, rfl⟩ := array6 (hsz.trans hC)
  obtain ⟨fuel, hf⟩ := h
  obtain ⟨xs, n, _, _, _, hlen, hfs⟩ := DataW.trod_struct hs hf
  have each : ∀ (j : Nat) (f : Field) (c : Value), #[f0, f1, f2, f3, f4, f5][j]? = some f → ([c0, c1, c2, c3, c4, c5].drop j).take 1 = [c] → ∃ y, DataW.trod enc P w base spare held n f.type [c] = some y := by
    intro j f c hj hc
    obtain ⟨o, k⟩ := hone_of hone j f hj
    have hlt : j < 6 := (Array.getElem?_eq_some_iff.1 hj).1
    obtain ⟨y, hy⟩ := some_at hlen hlt
    refine ⟨y, ?_⟩
    have := hfs j f hj
    rw [o, k, hy] at this
    simpa [Value.cells, hc] using this
  obtain ⟨y0, t0⟩ := each 0 f0 c0 rfl rfl
  obtain ⟨y1, t1⟩ := each 1 f1 c1 rfl rfl
  obtain ⟨y2, t2⟩ := each 2 f2 c2 rfl rfl
  obtain ⟨y3, t3⟩ := each 3 f3 c3 rfl rfl
  obtain ⟨y4, t4⟩ := each 4 f4 c4 rfl rfl
  obtain ⟨y5, t5⟩ := each 5 f5 c5 rfl rfl
  obtain ⟨k, rfl, w0⟩ := num_at i0 t0
  obtain ⟨dv, rfl, w1⟩ := num_at i1 t1
  obtain ⟨e, rfl, w2⟩ := num_at i2 t2
  obtain ⟨s, rfl, w3⟩ := num_at i3 t3
  obtain ⟨i, rfl, w4⟩ := num_at i4 t4
  obtain ⟨b, eb, _, hb⟩ := DataW.trod_string i5 t5
  simp only [List.cons.injEq, and_true] at eb
  subst eb
  exact ⟨k, dv, e, s, i, b, rfl, w0, w1, w2, w3, w4, hb⟩
end
end Go.Proofs.Ytecfomaapomncaa.Frm
