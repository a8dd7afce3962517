/-
  How a gate, and a config, that came in by value is read.
-/
import Derived.Test.YtecfomaapomncaaGtG
import Derived.Test.YtecfomaapomncaaLkO
import Derived.Test.YtecfomaapomncaaOpnF
import Derived.ChangeSlices
namespace Go.Proofs.Ytecfomaapomncaa.Gat
open Go.ChangeShapes Go.WideShapes Go.RowKit Go.Deep
open Lnk (num_at bool_at open_flies add_none IIs)
open Frm (some_at)
set_option linter.unusedVariables false

theorem cellsInt : Try.prog.cellsOf 3 = 1 := by kernel_rfl
theorem cellsPol : Try.prog.cellsOf 43 = 4 := by kernel_rfl
theorem cellsCfg : Try.prog.cellsOf 45 = 11 := by kernel_rfl
theorem cellsGate : Try.prog.cellsOf 51 = 21 := by kernel_rfl
theorem cellsEvent : Try.prog.cellsOf 102 = 9 := by kernel_rfl
theorem cellsLink : Try.prog.cellsOf 106 = 4 := by kernel_rfl
theorem cellsEs : Try.prog.cellsOf 48 = 1 := by kernel_rfl
theorem cellsLs : Try.prog.cellsOf 49 = 1 := by kernel_rfl
theorem cellsIs : Try.prog.cellsOf 31 = 1 := by kernel_rfl
theorem cellsStr : Try.prog.cellsOf 9 = 1 := by kernel_rfl
theorem cellsBool : Try.prog.cellsOf 4 = 1 := by kernel_rfl
theorem cellsFs : Try.prog.cellsOf 104 = 1 := by kernel_rfl

theorem list11 {α : Type} {cs : List α} (h : cs.length = 11) : ∃ x0 x1 x2 x3 x4 x5 x6 x7 x8 x9 x10, cs = [x0, x1, x2, x3, x4, x5, x6, x7, x8, x9, x10] := by
  match cs, h with
  | [x0, x1, x2, x3, x4, x5, x6, x7, x8, x9, x10], _ => exact ⟨x0, x1, x2, x3, x4, x5, x6, x7, x8, x9, x10, rfl⟩
theorem list21 {α : Type} {cs : List α} (h : cs.length = 21) : ∃ x0 x1 x2 x3 x4 x5 x6 x7 x8 x9 x10 x11 x12 x13 x14 x15 x16 x17 x18 x19 x20, cs = [x0, x1, x2, x3, x4, x5, x6, x7, x8, x9, x10, x11, x12, x13, x14, x15, x16, x17, x18, x19, x20] := by
  match cs, h with
  | [x0, x1, x2, x3, x4, x5, x6, x7, x8, x9, x10, x11, x12, x13, x14, x15, x16, x17, x18, x19, x20], _ => exact ⟨x0, x1, x2, x3, x4, x5, x6, x7, x8, x9, x10, x11, x12, x13, x14, x15, x16, x17, x18, x19, x20, rfl⟩
theorem list9 {α : Type} {cs : List α} (h : cs.length = 9) : ∃ x0 x1 x2 x3 x4 x5 x6 x7 x8, cs = [x0, x1, x2, x3, x4, x5, x6, x7, x8] := by
  match cs, h with
  | [x0, x1, x2, x3, x4, x5, x6, x7, x8], _ => exact ⟨x0, x1, x2, x3, x4, x5, x6, x7, x8, rfl⟩
theorem list4 {α : Type} {cs : List α} (h : cs.length = 4) : ∃ x0 x1 x2 x3, cs = [x0, x1, x2, x3] := by
  match cs, h with
  | [x0, x1, x2, x3], _ => exact ⟨x0, x1, x2, x3, rfl⟩
instance : Inhabited Ev := ⟨ev0⟩
instance : Inhabited Lr := ⟨lr0⟩
instance : Inhabited Lk := ⟨lk0⟩
section
variable {H : Type} {enc : TypeId × Value → H} {w : World} {base : Nat} {spare : Nat → Bool} {held : Bool}
set_option maxRecDepth 100000 in
/-- eleven cells of a config -/
theorem cfg_at {fuel : Nat} {cs : List Value} {x : DataW H × List MemPlace} (h : DataW.trod enc Try.prog w base spare held fuel 45 cs = some x) :
    ∃ (de qu wi ti qa bu le pb pc pj pt : Int), cs = [.int .i64 de, .int .i64 qu, .int .i64 wi, .int .i64 ti, .int .i64 qa, .int .i64 bu, .int .i64 le, .int .i64 pb, .int .i64 pc, .int .i64 pj, .int .i64 pt] := by
  obtain ⟨xs, n, _, _, hl, hxl, hf⟩ := DataW.trod_struct Try.underlying45 h
  rw [cellsCfg] at hl
  obtain ⟨x0, x1, x2, x3, x4, x5, x6, x7, x8, x9, x10, rfl⟩ := list11 hl
  have g0 := hf 0 _ rfl
  change DataW.trod enc Try.prog w base spare held n 3 (([x0, x1, x2, x3, x4, x5, x6, x7, x8, x9, x10].drop 0).take (Try.prog.cellsOf 3)) = xs[0]? at g0
  have g1 := hf 1 _ rfl
  change DataW.trod enc Try.prog w base spare held n 3 (([x0, x1, x2, x3, x4, x5, x6, x7, x8, x9, x10].drop 1).take (Try.prog.cellsOf 3)) = xs[1]? at g1
  have g2 := hf 2 _ rfl
  change DataW.trod enc Try.prog w base spare held n 3 (([x0, x1, x2, x3, x4, x5, x6, x7, x8, x9, x10].drop 2).take (Try.prog.cellsOf 3)) = xs[2]? at g2
  have g3 := hf 3 _ rfl
  change DataW.trod enc Try.prog w base spare held n 3 (([x0, x1, x2, x3, x4, x5, x6, x7, x8, x9, x10].drop 3).take (Try.prog.cellsOf 3)) = xs[3]? at g3
  have g4 := hf 4 _ rfl
  change DataW.trod enc Try.prog w base spare held n 3 (([x0, x1, x2, x3, x4, x5, x6, x7, x8, x9, x10].drop 4).take (Try.prog.cellsOf 3)) = xs[4]? at g4
  have g5 := hf 5 _ rfl
  change DataW.trod enc Try.prog w base spare held n 3 (([x0, x1, x2, x3, x4, x5, x6, x7, x8, x9, x10].drop 5).take (Try.prog.cellsOf 3)) = xs[5]? at g5
  have g6 := hf 6 _ rfl
  change DataW.trod enc Try.prog w base spare held n 3 (([x0, x1, x2, x3, x4, x5, x6, x7, x8, x9, x10].drop 6).take (Try.prog.cellsOf 3)) = xs[6]? at g6
  have g7 := hf 7 _ rfl
  change DataW.trod enc Try.prog w base spare held n 43 (([x0, x1, x2, x3, x4, x5, x6, x7, x8, x9, x10].drop 7).take (Try.prog.cellsOf 43)) = xs[7]? at g7
  simp only [cellsInt, cellsPol, List.drop_zero, List.drop_succ_cons, List.take_succ_cons, List.take_zero] at g0 g1 g2 g3 g4 g5 g6 g7
  obtain ⟨y0, e0⟩ := some_at hxl (show 0 < 8 by omega)
  rw [e0] at g0
  obtain ⟨de, rfl, _⟩ := num_at Try.underlying3 g0
  obtain ⟨y1, e1⟩ := some_at hxl (show 1 < 8 by omega)
  rw [e1] at g1
  obtain ⟨qu, rfl, _⟩ := num_at Try.underlying3 g1
  obtain ⟨y2, e2⟩ := some_at hxl (show 2 < 8 by omega)
  rw [e2] at g2
  obtain ⟨wi, rfl, _⟩ := num_at Try.underlying3 g2
  obtain ⟨y3, e3⟩ := some_at hxl (show 3 < 8 by omega)
  rw [e3] at g3
  obtain ⟨ti, rfl, _⟩ := num_at Try.underlying3 g3
  obtain ⟨y4, e4⟩ := some_at hxl (show 4 < 8 by omega)
  rw [e4] at g4
  obtain ⟨qa, rfl, _⟩ := num_at Try.underlying3 g4
  obtain ⟨y5, e5⟩ := some_at hxl (show 5 < 8 by omega)
  rw [e5] at g5
  obtain ⟨bu, rfl, _⟩ := num_at Try.underlying3 g5
  obtain ⟨y6, e6⟩ := some_at hxl (show 6 < 8 by omega)
  rw [e6] at g6
  obtain ⟨le, rfl, _⟩ := num_at Try.underlying3 g6
  obtain ⟨y7, e7⟩ := some_at hxl (show 7 < 8 by omega)
  rw [e7] at g7
  obtain ⟨ys, m, _, _, _, hyl, hp⟩ := DataW.trod_struct Try.underlying43 g7
  have p0 := hp 0 _ rfl
  change DataW.trod enc Try.prog w base spare held m 3 (([x7, x8, x9, x10].drop 0).take (Try.prog.cellsOf 3)) = ys[0]? at p0
  have p1 := hp 1 _ rfl
  change DataW.trod enc Try.prog w base spare held m 3 (([x7, x8, x9, x10].drop 1).take (Try.prog.cellsOf 3)) = ys[1]? at p1
  have p2 := hp 2 _ rfl
  change DataW.trod enc Try.prog w base spare held m 3 (([x7, x8, x9, x10].drop 2).take (Try.prog.cellsOf 3)) = ys[2]? at p2
  have p3 := hp 3 _ rfl
  change DataW.trod enc Try.prog w base spare held m 3 (([x7, x8, x9, x10].drop 3).take (Try.prog.cellsOf 3)) = ys[3]? at p3
  simp only [cellsInt, List.drop_zero, List.drop_succ_cons, List.take_succ_cons, List.take_zero] at p0 p1 p2 p3
  obtain ⟨z0, q0⟩ := some_at hyl (show 0 < 4 by omega)
  rw [q0] at p0
  obtain ⟨pb, rfl, _⟩ := num_at Try.underlying3 p0
  obtain ⟨z1, q1⟩ := some_at hyl (show 1 < 4 by omega)
  rw [q1] at p1
  obtain ⟨pc, rfl, _⟩ := num_at Try.underlying3 p1
  obtain ⟨z2, q2⟩ := some_at hyl (show 2 < 4 by omega)
  rw [q2] at p2
  obtain ⟨pj, rfl, _⟩ := num_at Try.underlying3 p2
  obtain ⟨z3, q3⟩ := some_at hyl (show 3 < 4 by omega)
  rw [q3] at p3
  obtain ⟨pt, rfl, _⟩ := num_at Try.underlying3 p3
  exact ⟨de, qu, wi, ti, qa, bu, le, pb, pc, pj, pt, rfl⟩
set_option maxRecDepth 100000 in
theorem open_config {r : Reach} {b0 : Nat} {v : Value} {d : DataW H} {p : List MemPlace} (hv : Value.okWide Try.prog w r b0 45 v) (h : DataW.Trod enc Try.prog w base spare held 45 v d p) :
    ∃ (de qu wi ti qa bu le pb pc pj pt : Int), v = .agg #[.int .i64 de, .int .i64 qu, .int .i64 wi, .int .i64 ti, .int .i64 qa, .int .i64 bu, .int .i64 le, .int .i64 pb, .int .i64 pc, .int .i64 pj, .int .i64 pt] := by
  obtain ⟨cs, rfl, hsz⟩ := okWide_struct Try.underlying45 hv
  obtain ⟨fuel, hf⟩ := h
  obtain ⟨de, qu, wi, ti, qa, bu, le, pb, pc, pj, pt, e⟩ := cfg_at hf
  refine ⟨de, qu, wi, ti, qa, bu, le, pb, pc, pj, pt, ?_⟩
  have : cs = (#[.int .i64 de, .int .i64 qu, .int .i64 wi, .int .i64 ti, .int .i64 qa, .int .i64 bu, .int .i64 le, .int .i64 pb, .int .i64 pc, .int .i64 pj, .int .i64 pt] : Array Value) := by
    apply Array.ext'
    simpa [Value.cells] using e
  rw [this]

set_option maxRecDepth 100000 in
theorem open_events {fuel : Nat} {v : Value} {x : DataW H × List MemPlace} (h : DataW.trod enc Try.prog w base spare held fuel 48 [v] = some x) :
    ∃ a len cap l, v = .slice a len cap ∧ EIs w.heap.size w a len l ∧ ∀ e ∈ l, (Lit.int .i64 e.i).wf = true := by
  rcases open_slice Try.underlying48 h with ⟨hcs, _⟩ | ⟨a, len, cap, m, n, D, Pl, hcs, hb, hl, hm, hmm, hx, hi⟩
  · simp only [List.cons.injEq, and_true] at hcs
    exact ⟨none, 0, 0, [], hcs, EIs.nil _ _ _, fun e he => by cases he⟩
  · simp only [List.cons.injEq, and_true] at hcs
    have hlm : len ≤ m := by rw [hmm]; split <;> omega
    have each : ∀ i, i < len → ∃ q : Ev, (∀ k u, q.vals[k]? = some u → w.cell? (a.add (i * 9 + k)) = some u) ∧ q.b.size ≤ maxLen ∧ (Lit.int .i64 q.i).wf = true := by
      intro i hil
      obtain ⟨cs', h1, h2⟩ := hi i (by omega)
      rw [cellsEvent] at h1
      obtain ⟨_, hlen, hcell⟩ := World.cells?_some h1
      obtain ⟨xs, k, hk, hxy, _, hxl, hf⟩ := DataW.trod_struct Try.underlying102 h2
      obtain ⟨x0, x1, x2, x3, x4, x5, x6, x7, x8, rfl⟩ := list9 hlen
      have g0 := hf 0 _ rfl
      change DataW.trod enc Try.prog w base spare held k 3 (([x0, x1, x2, x3, x4, x5, x6, x7, x8].drop 0).take (Try.prog.cellsOf 3)) = xs[0]? at g0
      have g1 := hf 1 _ rfl
      change DataW.trod enc Try.prog w base spare held k 3 (([x0, x1, x2, x3, x4, x5, x6, x7, x8].drop 1).take (Try.prog.cellsOf 3)) = xs[1]? at g1
      have g2 := hf 2 _ rfl
      change DataW.trod enc Try.prog w base spare held k 3 (([x0, x1, x2, x3, x4, x5, x6, x7, x8].drop 2).take (Try.prog.cellsOf 3)) = xs[2]? at g2
      have g3 := hf 3 _ rfl
      change DataW.trod enc Try.prog w base spare held k 9 (([x0, x1, x2, x3, x4, x5, x6, x7, x8].drop 3).take (Try.prog.cellsOf 9)) = xs[3]? at g3
      have g4 := hf 4 _ rfl
      change DataW.trod enc Try.prog w base spare held k 3 (([x0, x1, x2, x3, x4, x5, x6, x7, x8].drop 4).take (Try.prog.cellsOf 3)) = xs[4]? at g4
      have g5 := hf 5 _ rfl
      change DataW.trod enc Try.prog w base spare held k 3 (([x0, x1, x2, x3, x4, x5, x6, x7, x8].drop 5).take (Try.prog.cellsOf 3)) = xs[5]? at g5
      have g6 := hf 6 _ rfl
      change DataW.trod enc Try.prog w base spare held k 3 (([x0, x1, x2, x3, x4, x5, x6, x7, x8].drop 6).take (Try.prog.cellsOf 3)) = xs[6]? at g6
      have g7 := hf 7 _ rfl
      change DataW.trod enc Try.prog w base spare held k 3 (([x0, x1, x2, x3, x4, x5, x6, x7, x8].drop 7).take (Try.prog.cellsOf 3)) = xs[7]? at g7
      have g8 := hf 8 _ rfl
      change DataW.trod enc Try.prog w base spare held k 3 (([x0, x1, x2, x3, x4, x5, x6, x7, x8].drop 8).take (Try.prog.cellsOf 3)) = xs[8]? at g8
      simp only [cellsInt, cellsStr, List.drop_zero, List.drop_succ_cons, List.take_succ_cons, List.take_zero] at g0 g1 g2 g3 g4 g5 g6 g7 g8
      obtain ⟨y0, e0⟩ := some_at hxl (show 0 < 9 by omega)
      rw [e0] at g0
      obtain ⟨i, rfl, w0⟩ := num_at Try.underlying3 g0
      obtain ⟨y1, e1⟩ := some_at hxl (show 1 < 9 by omega)
      rw [e1] at g1
      obtain ⟨d, rfl, w1⟩ := num_at Try.underlying3 g1
      obtain ⟨y2, e2⟩ := some_at hxl (show 2 < 9 by omega)
      rw [e2] at g2
      obtain ⟨c, rfl, w2⟩ := num_at Try.underlying3 g2
      obtain ⟨y3, e3⟩ := some_at hxl (show 3 < 9 by omega)
      rw [e3] at g3
      obtain ⟨bd, eb, _, hbd⟩ := DataW.trod_string Try.underlying9 g3
      simp only [List.cons.injEq, and_true] at eb
      subst eb
      obtain ⟨y4, e4⟩ := some_at hxl (show 4 < 9 by omega)
      rw [e4] at g4
      obtain ⟨at_, rfl, w4⟩ := num_at Try.underlying3 g4
      obtain ⟨y5, e5⟩ := some_at hxl (show 5 < 9 by omega)
      rw [e5] at g5
      obtain ⟨t, rfl, w5⟩ := num_at Try.underlying3 g5
      obtain ⟨y6, e6⟩ := some_at hxl (show 6 < 9 by omega)
      rw [e6] at g6
      obtain ⟨r, rfl, w6⟩ := num_at Try.underlying3 g6
      obtain ⟨y7, e7⟩ := some_at hxl (show 7 < 9 by omega)
      rw [e7] at g7
      obtain ⟨n, rfl, w7⟩ := num_at Try.underlying3 g7
      obtain ⟨y8, e8⟩ := some_at hxl (show 8 < 9 by omega)
      rw [e8] at g8
      obtain ⟨s, rfl, w8⟩ := num_at Try.underlying3 g8
      refine ⟨⟨i, d, c, bd, at_, t, r, n, s⟩, fun k u hu => ?_, hbd, w0⟩
      have hk9 : k < 9 := (List.getElem?_eq_some_iff.1 hu).1
      have := hcell k (by omega)
      rw [add_add] at this
      rw [this]
      exact hu
    obtain ⟨q, hq⟩ := choose_lt each
    have hmem : ∀ e ∈ (List.range len).map q, e.b.size ≤ maxLen ∧ (Lit.int .i64 e.i).wf = true := by
      intro e he
      obtain ⟨i, hi, rfl⟩ := List.mem_map.1 he
      exact (hq i (List.mem_range.1 hi)).2
    refine ⟨some a, len, cap, (List.range len).map q, hcs, ⟨⟨by simp, by omega, fun k hk => ?_⟩, fun e he => (hmem e he).1⟩, fun e he => (hmem e he).2⟩
    simp at hk
    obtain ⟨b, off, spot⟩ := a
    have h0 := (hq k hk).1 0 _ rfl
    have hs : spot = none := by
      have := (hq 0 (by omega)).1 0 _ rfl
      exact World.cell?_spot (by simpa using this)
    subst hs
    rw [add_none] at h0
    refine ⟨b, off, rfl, World.block_lt_of_cell? w _ h0, fun i u hu => ?_⟩
    have := (hq k hk).1 i u (by simpa [evS] using hu)
    rw [add_none] at this
    simpa [evS, Nat.add_assoc] using this

theorem open_links {fuel : Nat} {v : Value} {x : DataW H × List MemPlace} (h : DataW.trod enc Try.prog w base spare held fuel 49 [v] = some x) :
    ∃ a len cap l, v = .slice a len cap ∧ LIs w.heap.size w a len l := by
  rcases open_slice Try.underlying49 h with ⟨hcs, _⟩ | ⟨a, len, cap, m, n, D, Pl, hcs, hb, hl, hm, hmm, hx, hi⟩
  · simp only [List.cons.injEq, and_true] at hcs
    exact ⟨none, 0, 0, [], hcs, LIs.nil _ _ _⟩
  · simp only [List.cons.injEq, and_true] at hcs
    have hlm : len ≤ m := by rw [hmm]; split <;> omega
    have each : ∀ i, i < len → ∃ q : Lr × Lk, (∀ k u, q.1.vals[k]? = some u → w.cell? (a.add (i * 4 + k)) = some u) ∧ LrIs w.heap.size w q.1 q.2 := by
      intro i hil
      obtain ⟨cs', h1, h2⟩ := hi i (by omega)
      rw [cellsLink] at h1
      obtain ⟨_, hlen, hcell⟩ := World.cells?_some h1
      obtain ⟨xs, k, hk, hxy, _, hxl, hf⟩ := DataW.trod_struct Try.underlying106 h2
      obtain ⟨x0, x1, x2, x3, rfl⟩ := list4 hlen
      have g0 := hf 0 _ rfl
      change DataW.trod enc Try.prog w base spare held k 4 (([x0, x1, x2, x3].drop 0).take (Try.prog.cellsOf 4)) = xs[0]? at g0
      have g1 := hf 1 _ rfl
      change DataW.trod enc Try.prog w base spare held k 3 (([x0, x1, x2, x3].drop 1).take (Try.prog.cellsOf 3)) = xs[1]? at g1
      have g2 := hf 2 _ rfl
      change DataW.trod enc Try.prog w base spare held k 3 (([x0, x1, x2, x3].drop 2).take (Try.prog.cellsOf 3)) = xs[2]? at g2
      have g3 := hf 3 _ rfl
      change DataW.trod enc Try.prog w base spare held k 104 (([x0, x1, x2, x3].drop 3).take (Try.prog.cellsOf 104)) = xs[3]? at g3
      simp only [cellsInt, cellsBool, cellsFs, List.drop_zero, List.drop_succ_cons, List.take_succ_cons, List.take_zero] at g0 g1 g2 g3
      obtain ⟨y0, e0⟩ := some_at hxl (show 0 < 4 by omega)
      rw [e0] at g0
      obtain ⟨y1, e1⟩ := some_at hxl (show 1 < 4 by omega)
      rw [e1] at g1
      obtain ⟨y2, e2⟩ := some_at hxl (show 2 < 4 by omega)
      rw [e2] at g2
      obtain ⟨y3, e3⟩ := some_at hxl (show 3 < 4 by omega)
      rw [e3] at g3
      obtain ⟨up, rfl⟩ := bool_at Try.underlying4 g0
      obtain ⟨ep, rfl, w1⟩ := num_at Try.underlying3 g1
      obtain ⟨sq, rfl, w2⟩ := num_at Try.underlying3 g2
      obtain ⟨fa, fl, fc, y, rfl, hy⟩ := open_flies Try.underlying104 Try.underlying123 (by kernel_rfl) rfl rfl rfl Try.underlying3 Try.underlying3 Try.underlying3 (by kernel_rfl) (by kernel_rfl) (by kernel_rfl) g3
      refine ⟨(⟨up, ep, sq, .slice fa fl fc⟩, ⟨up, ep, sq, y⟩), fun k u hu => ?_, rfl, rfl, rfl, fa, fl, fc, rfl, hy⟩
      have hk9 : k < 4 := (List.getElem?_eq_some_iff.1 hu).1
      have := hcell k (by omega)
      rw [add_add] at this
      rw [this]
      exact hu
    obtain ⟨q, hq⟩ := choose_lt each
    refine ⟨some a, len, cap, (List.range len).map (fun i => (q i).2), hcs, ⟨(List.range len).map (fun i => (q i).1), ⟨by simp, by omega, fun k hk => ?_⟩, by simp, fun k hk hk' => ?_⟩⟩
    · simp at hk
      obtain ⟨b, off, spot⟩ := a
      have h0 := (hq k hk).1 0 _ rfl
      have hs : spot = none := by
        have := (hq 0 (by omega)).1 0 _ rfl
        exact World.cell?_spot (by simpa using this)
      subst hs
      rw [add_none] at h0
      refine ⟨b, off, rfl, World.block_lt_of_cell? w _ h0, fun i u hu => ?_⟩
      have := (hq k hk).1 i u (by simpa [lrS] using hu)
      rw [add_none] at this
      simpa [lrS, Nat.add_assoc] using this
    · simp at hk
      simpa using (hq k hk).2
theorem open_introw {fuel : Nat} {v : Value} {x : DataW H × List MemPlace} (h : DataW.trod enc Try.prog w base spare held fuel 31 [v] = some x) :
    ∃ a len cap l, v = .slice a len cap ∧ IIs w.heap.size w a len l ∧ len ≤ maxLen ∧ ∀ x ∈ l, (Lit.int .i64 x).wf = true := by
  rcases open_ints Try.underlying31 Try.underlying3 cellsInt h with ⟨hcs, _⟩ | ⟨a, len, cap, zs, hcs, hb, hl, hm, hz, _, hcell, hwz⟩
  · simp only [List.cons.injEq, and_true] at hcs
    exact ⟨none, 0, 0, [], hcs, ⟨rfl, fun k hk => by simp at hk⟩, by unfold maxLen; omega, fun e he => by cases he⟩
  · simp only [List.cons.injEq, and_true] at hcs
    have hlz : len ≤ zs.length := by rw [hz]; split <;> omega
    refine ⟨some a, len, cap, zs.take len, hcs, ⟨by simp; omega, fun k hk => ?_⟩, by omega, fun x hx => hwz x (List.mem_of_mem_take hx)⟩
    have hk2 : k < len := by have := hk; simp at this; omega
    obtain ⟨b, off, spot⟩ := a
    have hc := hcell k (by omega)
    have hs : spot = none := World.cell?_spot (by simpa using hcell 0 (by omega))
    subst hs
    rw [add_none] at hc
    refine ⟨b, off, rfl, World.block_lt_of_cell? w _ hc, ?_⟩
    rw [hc, List.getElem_take, List.getD_eq_getElem?_getD, List.getElem?_eq_getElem (by omega)]
    rfl

set_option maxRecDepth 100000 in
theorem open_gate {r : Reach} {b0 : Nat} {v : Value} {d : DataW H} {p : List MemPlace} (hv : Value.okWide Try.prog w r b0 51 v) (h : DataW.Trod enc Try.prog w base spare held 51 v d p) :
    ∃ (de qu wi ti qa bu le pb pc pj pt nw la : Int) (ea : Option Addr) (en ec : Nat) (ka : Option Addr) (kn kc : Nat) (tu : Int) (fa : Option Addr) (fn fc : Nat) (ra : Option Addr) (rn rc : Nat) (tk ac dr : Int) (E : List Ev) (K : List Lk) (F R : List Int), v = .agg #[.int .i64 de, .int .i64 qu, .int .i64 wi, .int .i64 ti, .int .i64 qa, .int .i64 bu, .int .i64 le, .int .i64 pb, .int .i64 pc, .int .i64 pj, .int .i64 pt, .int .i64 nw, .int .i64 la, .slice ea en ec, .slice ka kn kc, .int .i64 tu, .slice fa fn fc, .slice ra rn rc, .int .i64 tk, .int .i64 ac, .int .i64 dr] ∧ GIs w.heap.size w ea en ka kn fa fn ra rn E K F R ∧ (∀ e ∈ E, (Lit.int .i64 e.i).wf = true) ∧ (∀ x ∈ R, (Lit.int .i64 x).wf = true) := by
  obtain ⟨cs, rfl, hsz⟩ := okWide_struct Try.underlying51 hv
  obtain ⟨fuel, hf0⟩ := h
  obtain ⟨xs, n, _, _, hl, hxl, hf⟩ := DataW.trod_struct Try.underlying51 hf0
  rw [cellsGate] at hl
  obtain ⟨x0, x1, x2, x3, x4, x5, x6, x7, x8, x9, x10, x11, x12, x13, x14, x15, x16, x17, x18, x19, x20, hcs⟩ := list21 hl
  rw [hcs] at hf
  have g0 := hf 0 _ rfl
  change DataW.trod enc Try.prog w base spare held n 45 (([x0, x1, x2, x3, x4, x5, x6, x7, x8, x9, x10, x11, x12, x13, x14, x15, x16, x17, x18, x19, x20].drop 0).take (Try.prog.cellsOf 45)) = xs[0]? at g0
  have g1 := hf 1 _ rfl
  change DataW.trod enc Try.prog w base spare held n 3 (([x0, x1, x2, x3, x4, x5, x6, x7, x8, x9, x10, x11, x12, x13, x14, x15, x16, x17, x18, x19, x20].drop 11).take (Try.prog.cellsOf 3)) = xs[1]? at g1
  have g2 := hf 2 _ rfl
  change DataW.trod enc Try.prog w base spare held n 3 (([x0, x1, x2, x3, x4, x5, x6, x7, x8, x9, x10, x11, x12, x13, x14, x15, x16, x17, x18, x19, x20].drop 12).take (Try.prog.cellsOf 3)) = xs[2]? at g2
  have g3 := hf 3 _ rfl
  change DataW.trod enc Try.prog w base spare held n 48 (([x0, x1, x2, x3, x4, x5, x6, x7, x8, x9, x10, x11, x12, x13, x14, x15, x16, x17, x18, x19, x20].drop 13).take (Try.prog.cellsOf 48)) = xs[3]? at g3
  have g4 := hf 4 _ rfl
  change DataW.trod enc Try.prog w base spare held n 49 (([x0, x1, x2, x3, x4, x5, x6, x7, x8, x9, x10, x11, x12, x13, x14, x15, x16, x17, x18, x19, x20].drop 14).take (Try.prog.cellsOf 49)) = xs[4]? at g4
  have g5 := hf 5 _ rfl
  change DataW.trod enc Try.prog w base spare held n 3 (([x0, x1, x2, x3, x4, x5, x6, x7, x8, x9, x10, x11, x12, x13, x14, x15, x16, x17, x18, x19, x20].drop 15).take (Try.prog.cellsOf 3)) = xs[5]? at g5
  have g6 := hf 6 _ rfl
  change DataW.trod enc Try.prog w base spare held n 31 (([x0, x1, x2, x3, x4, x5, x6, x7, x8, x9, x10, x11, x12, x13, x14, x15, x16, x17, x18, x19, x20].drop 16).take (Try.prog.cellsOf 31)) = xs[6]? at g6
  have g7 := hf 7 _ rfl
  change DataW.trod enc Try.prog w base spare held n 31 (([x0, x1, x2, x3, x4, x5, x6, x7, x8, x9, x10, x11, x12, x13, x14, x15, x16, x17, x18, x19, x20].drop 17).take (Try.prog.cellsOf 31)) = xs[7]? at g7
  have g8 := hf 8 _ rfl
  change DataW.trod enc Try.prog w base spare held n 3 (([x0, x1, x2, x3, x4, x5, x6, x7, x8, x9, x10, x11, x12, x13, x14, x15, x16, x17, x18, x19, x20].drop 18).take (Try.prog.cellsOf 3)) = xs[8]? at g8
  have g9 := hf 9 _ rfl
  change DataW.trod enc Try.prog w base spare held n 3 (([x0, x1, x2, x3, x4, x5, x6, x7, x8, x9, x10, x11, x12, x13, x14, x15, x16, x17, x18, x19, x20].drop 19).take (Try.prog.cellsOf 3)) = xs[9]? at g9
  have g10 := hf 10 _ rfl
  change DataW.trod enc Try.prog w base spare held n 3 (([x0, x1, x2, x3, x4, x5, x6, x7, x8, x9, x10, x11, x12, x13, x14, x15, x16, x17, x18, x19, x20].drop 20).take (Try.prog.cellsOf 3)) = xs[10]? at g10
  simp only [cellsInt, cellsCfg, cellsEs, cellsLs, cellsIs, List.drop_zero, List.drop_succ_cons, List.take_succ_cons, List.take_zero] at g0 g1 g2 g3 g4 g5 g6 g7 g8 g9 g10
  obtain ⟨y0, e0⟩ := some_at hxl (show 0 < 11 by omega)
  rw [e0] at g0
  obtain ⟨y1, e1⟩ := some_at hxl (show 1 < 11 by omega)
  rw [e1] at g1
  obtain ⟨y2, e2⟩ := some_at hxl (show 2 < 11 by omega)
  rw [e2] at g2
  obtain ⟨y3, e3⟩ := some_at hxl (show 3 < 11 by omega)
  rw [e3] at g3
  obtain ⟨y4, e4⟩ := some_at hxl (show 4 < 11 by omega)
  rw [e4] at g4
  obtain ⟨y5, e5⟩ := some_at hxl (show 5 < 11 by omega)
  rw [e5] at g5
  obtain ⟨y6, e6⟩ := some_at hxl (show 6 < 11 by omega)
  rw [e6] at g6
  obtain ⟨y7, e7⟩ := some_at hxl (show 7 < 11 by omega)
  rw [e7] at g7
  obtain ⟨y8, e8⟩ := some_at hxl (show 8 < 11 by omega)
  rw [e8] at g8
  obtain ⟨y9, e9⟩ := some_at hxl (show 9 < 11 by omega)
  rw [e9] at g9
  obtain ⟨y10, e10⟩ := some_at hxl (show 10 < 11 by omega)
  rw [e10] at g10
  obtain ⟨de, qu, wi, ti, qa, bu, le, pb, pc, pj, pt, ecf⟩ := cfg_at g0
  simp only [List.cons.injEq, and_true] at ecf
  obtain ⟨rfl, rfl, rfl, rfl, rfl, rfl, rfl, rfl, rfl, rfl, rfl⟩ := ecf
  obtain ⟨nw, rfl, _⟩ := num_at Try.underlying3 g1
  obtain ⟨la, rfl, _⟩ := num_at Try.underlying3 g2
  obtain ⟨ea, en, ec, E, rfl, hE, hEw⟩ := open_events g3
  obtain ⟨ka, kn, kc, K, rfl, hK⟩ := open_links g4
  obtain ⟨tu, rfl, _⟩ := num_at Try.underlying3 g5
  obtain ⟨fa, fn, fc, F, rfl, hF, hFl, _⟩ := open_introw g6
  obtain ⟨ra, rn, rc, R, rfl, hR, hRl, hRw⟩ := open_introw g7
  obtain ⟨tk, rfl, _⟩ := num_at Try.underlying3 g8
  obtain ⟨ac, rfl, _⟩ := num_at Try.underlying3 g9
  obtain ⟨dr, rfl, _⟩ := num_at Try.underlying3 g10
  refine ⟨de, qu, wi, ti, qa, bu, le, pb, pc, pj, pt, nw, la, ea, en, ec, ka, kn, kc, tu, fa, fn, fc, ra, rn, rc, tk, ac, dr, E, K, F, R, ?_, ⟨hE, hK, hF, hR, hFl, hRl⟩, hEw, hRw⟩
  have : cs = (#[.int .i64 de, .int .i64 qu, .int .i64 wi, .int .i64 ti, .int .i64 qa, .int .i64 bu, .int .i64 le, .int .i64 pb, .int .i64 pc, .int .i64 pj, .int .i64 pt, .int .i64 nw, .int .i64 la, .slice ea en ec, .slice ka kn kc, .int .i64 tu, .slice fa fn fc, .slice ra rn rc, .int .i64 tk, .int .i64 ac, .int .i64 dr] : Array Value) := by
    apply Array.ext'
    simpa [Value.cells] using hcs
  rw [this]
end
end Go.Proofs.Ytecfomaapomncaa.Gat
