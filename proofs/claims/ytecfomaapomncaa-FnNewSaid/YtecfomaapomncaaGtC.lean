/-
  A config: when it is right, its box; the walks of ConfigOk, of the program and of the specification, and of the law FnExactConfigOk.
-/
import Derived.Test.YtecfomaapomncaaPolW
namespace Go.Proofs.Ytecfomaapomncaa.Gat
open Go.RowKit
set_option linter.unusedVariables false
open Pol (bool_iff bool_no bOne bAfter PolOk polB)
def CfgOk (de qu wi ti qa bu le b c j t : Int) : Prop := 1 ≤ de ∧ de ≤ 6 ∧ 1 ≤ qu ∧ qu ≤ 10 ∧ 1 ≤ wi ∧ wi ≤ 8 ∧ 1 ≤ ti ∧ ti ≤ 1000 ∧ 1 ≤ qa ∧ qa ≤ 20 ∧ 1 ≤ bu ∧ bu ≤ de ∧ 1 ≤ le ∧ le ≤ 20 ∧ PolOk b c j t
instance (de qu wi ti qa bu le b c j t : Int) : Decidable (CfgOk de qu wi ti qa bu le b c j t) := by unfold CfgOk; infer_instance
def cfgB (de qu wi ti qa bu le b c j t : Int) : Bool := decide (CfgOk de qu wi ti qa bu le b c j t)
def inB (lo hi x : Int) : Bool := decide (lo ≤ x ∧ x ≤ hi)
theorem inB_yes {lo hi x : Int} (h : inB lo hi x = true) : lo ≤ x ∧ x ≤ hi := of_decide_eq_true h
theorem inB_no {lo hi x : Int} (h : inB lo hi x = false) : ¬ (lo ≤ x ∧ x ≤ hi) := of_decide_eq_false h
theorem cfgB_no {de qu wi ti qa bu le b c j t : Int} (h : ¬ CfgOk de qu wi ti qa bu le b c j t) : cfgB de qu wi ti qa bu le b c j t = false := decide_eq_false h
theorem cfgB_yes {de qu wi ti qa bu le b c j t : Int} (h : CfgOk de qu wi ti qa bu le b c j t) : cfgB de qu wi ti qa bu le b c j t = true := decide_eq_true h
theorem polB_is {b c j t : Int} {x : Bool} (h : polB b c j t = x) : x = true ↔ PolOk b c j t := by subst h; unfold Pol.polB; exact decide_eq_true_iff

/-- a config's box -/
structure B11 (w : World) (k : Nat) (de qu wi ti qa bu le b c j t : Int) : Prop where
  c0 : w.cell? ⟨k, 0, none⟩ = some (.int .i64 de)
  c1 : w.cell? ⟨k, 1, none⟩ = some (.int .i64 qu)
  c2 : w.cell? ⟨k, 2, none⟩ = some (.int .i64 wi)
  c3 : w.cell? ⟨k, 3, none⟩ = some (.int .i64 ti)
  c4 : w.cell? ⟨k, 4, none⟩ = some (.int .i64 qa)
  c5 : w.cell? ⟨k, 5, none⟩ = some (.int .i64 bu)
  c6 : w.cell? ⟨k, 6, none⟩ = some (.int .i64 le)
  c7 : w.cell? ⟨k, 7, none⟩ = some (.int .i64 b)
  c8 : w.cell? ⟨k, 8, none⟩ = some (.int .i64 c)
  c9 : w.cell? ⟨k, 9, none⟩ = some (.int .i64 j)
  c10 : w.cell? ⟨k, 10, none⟩ = some (.int .i64 t)
  lt : k < w.heap.size
theorem B11.new (w : World) (de qu wi ti qa bu le b c j t : Int) (ty : TypeId) : B11 (w.alloc (.cells #[.int .i64 de, .int .i64 qu, .int .i64 wi, .int .i64 ti, .int .i64 qa, .int .i64 bu, .int .i64 le, .int .i64 b, .int .i64 c, .int .i64 j, .int .i64 t] ty)) w.heap.size de qu wi ti qa bu le b c j t :=
  ⟨cell_of_row _ _ 0 _ ty (0, 0) (heap_alloc_new w _), cell_of_row _ _ 1 _ ty (0, 0) (heap_alloc_new w _), cell_of_row _ _ 2 _ ty (0, 0) (heap_alloc_new w _), cell_of_row _ _ 3 _ ty (0, 0) (heap_alloc_new w _), cell_of_row _ _ 4 _ ty (0, 0) (heap_alloc_new w _), cell_of_row _ _ 5 _ ty (0, 0) (heap_alloc_new w _), cell_of_row _ _ 6 _ ty (0, 0) (heap_alloc_new w _), cell_of_row _ _ 7 _ ty (0, 0) (heap_alloc_new w _), cell_of_row _ _ 8 _ ty (0, 0) (heap_alloc_new w _), cell_of_row _ _ 9 _ ty (0, 0) (heap_alloc_new w _), cell_of_row _ _ 10 _ ty (0, 0) (heap_alloc_new w _), by simp⟩
theorem B11.below {w w' : World} {k : Nat} {de qu wi ti qa bu le b c j t : Int} (h : B11 w k de qu wi ti qa bu le b c j t) (hb : Below w.heap.size w w') : B11 w' k de qu wi ti qa bu le b c j t :=
  ⟨(hb.cell (p := ⟨k, 0, none⟩) h.lt).trans h.c0, (hb.cell (p := ⟨k, 1, none⟩) h.lt).trans h.c1, (hb.cell (p := ⟨k, 2, none⟩) h.lt).trans h.c2, (hb.cell (p := ⟨k, 3, none⟩) h.lt).trans h.c3, (hb.cell (p := ⟨k, 4, none⟩) h.lt).trans h.c4, (hb.cell (p := ⟨k, 5, none⟩) h.lt).trans h.c5, (hb.cell (p := ⟨k, 6, none⟩) h.lt).trans h.c6, (hb.cell (p := ⟨k, 7, none⟩) h.lt).trans h.c7, (hb.cell (p := ⟨k, 8, none⟩) h.lt).trans h.c8, (hb.cell (p := ⟨k, 9, none⟩) h.lt).trans h.c9, (hb.cell (p := ⟨k, 10, none⟩) h.lt).trans h.c10, Nat.lt_of_lt_of_le h.lt hb.size⟩

theorem in_any (x lo hi : Int) (w : World) :
    Calls Try.prog 35 #[.int .i64 x, .int .i64 lo, .int .i64 hi] w fun e w' => e = .returned (.bool (inB lo hi x)) ∧ w = w' := by
  go_enter Try.func35, Try.ntmps35
  go_wp2
  all_goals
    go_ret
    refine ⟨?_, rfl⟩
    unfold inB
    first
      | exact bool_iff (by omega)
      | exact bool_no (by omega)

set_option maxRecDepth 100000 in
set_option maxHeartbeats 2000000 in
theorem implCfg_any (de qu wi ti qa bu le b c j t : Int) (w : World) :
    Calls Try.prog 14 #[.agg #[.int .i64 de, .int .i64 qu, .int .i64 wi, .int .i64 ti, .int .i64 qa, .int .i64 bu, .int .i64 le, .int .i64 b, .int .i64 c, .int .i64 j, .int .i64 t]] w fun e w' => e = .returned (.bool (cfgB de qu wi ti qa bu le b c j t)) ∧ Below w.heap.size w w' := by
  have HB := Lib.hid (B11.new w de qu wi ti qa bu le b c j t 27)
  go_enter Try.func14, Try.ntmps14
  go_wp2_with fail
  · refine (Pol.implOk_any b c j t _).mono ?_
    rintro e w1 ⟨rfl, hb1⟩
    have HL := Lib.hid (bAfter (bOne w _) hb1 (by simp))
    clear hb1
    obtain ⟨x, hx⟩ : ∃ x, x = polB b c j t := ⟨_, rfl⟩
    rw [← hx]
    have HX := Lib.hid hx
    clear hx
    go_wp2_with fail
    go_ret
    refine ⟨?_, HL.out⟩
    rw [HX.out]
    exact bool_iff (by unfold CfgOk PolOk; omega)
  all_goals
    go_ret
    refine ⟨?_, bOne _ _⟩
    unfold cfgB
    first
      | exact bool_iff (by unfold CfgOk PolOk; omega)
      | exact bool_no (by unfold CfgOk PolOk; omega)

set_option maxRecDepth 100000 in
set_option maxHeartbeats 2000000 in
theorem specCfg_any (de qu wi ti qa bu le b c j t : Int) (w : World) :
    Calls Try.prog 15 #[.agg #[.int .i64 de, .int .i64 qu, .int .i64 wi, .int .i64 ti, .int .i64 qa, .int .i64 bu, .int .i64 le, .int .i64 b, .int .i64 c, .int .i64 j, .int .i64 t]] w fun e w' => e = .returned (.bool (cfgB de qu wi ti qa bu le b c j t)) ∧ Below w.heap.size w w' := by
  have HB := Lib.hid (B11.new w de qu wi ti qa bu le b c j t 27)
  go_enter Try.func15, Try.ntmps15
  go_wp2_with fail
  refine (in_any de 1 6 _).mono ?_
  rintro e w0 ⟨rfl, rfl⟩
  cases h0 : inB 1 6 de
  · have HN := Lib.hid (cfgB_no (de := de) (qu := qu) (wi := wi) (ti := ti) (qa := qa) (bu := bu) (le := le) (b := b) (c := c) (j := j) (t := t) (fun h => inB_no h0 (by unfold CfgOk at h; omega)))
    clear h0
    go_wp2_with fail
    go_ret
    exact ⟨by rw [HN.out]; rfl, bOne _ _⟩
  have H0 := Lib.hid (inB_yes h0)
  clear h0
  go_wp2_with fail
  refine (in_any qu 1 10 _).mono ?_
  rintro e w1 ⟨rfl, rfl⟩
  cases h1 : inB 1 10 qu
  · have HN := Lib.hid (cfgB_no (de := de) (qu := qu) (wi := wi) (ti := ti) (qa := qa) (bu := bu) (le := le) (b := b) (c := c) (j := j) (t := t) (fun h => inB_no h1 (by unfold CfgOk at h; omega)))
    clear h1
    go_wp2_with fail
    go_ret
    exact ⟨by rw [HN.out]; rfl, bOne _ _⟩
  have H1 := Lib.hid (inB_yes h1)
  clear h1
  go_wp2_with fail
  refine (in_any wi 1 8 _).mono ?_
  rintro e w2 ⟨rfl, rfl⟩
  cases h2 : inB 1 8 wi
  · have HN := Lib.hid (cfgB_no (de := de) (qu := qu) (wi := wi) (ti := ti) (qa := qa) (bu := bu) (le := le) (b := b) (c := c) (j := j) (t := t) (fun h => inB_no h2 (by unfold CfgOk at h; omega)))
    clear h2
    go_wp2_with fail
    go_ret
    exact ⟨by rw [HN.out]; rfl, bOne _ _⟩
  have H2 := Lib.hid (inB_yes h2)
  clear h2
  go_wp2_with fail
  refine (in_any ti 1 1000 _).mono ?_
  rintro e w3 ⟨rfl, rfl⟩
  cases h3 : inB 1 1000 ti
  · have HN := Lib.hid (cfgB_no (de := de) (qu := qu) (wi := wi) (ti := ti) (qa := qa) (bu := bu) (le := le) (b := b) (c := c) (j := j) (t := t) (fun h => inB_no h3 (by unfold CfgOk at h; omega)))
    clear h3
    go_wp2_with fail
    go_ret
    exact ⟨by rw [HN.out]; rfl, bOne _ _⟩
  have H3 := Lib.hid (inB_yes h3)
  clear h3
  go_wp2_with fail
  refine (in_any qa 1 20 _).mono ?_
  rintro e w4 ⟨rfl, rfl⟩
  cases h4 : inB 1 20 qa
  · have HN := Lib.hid (cfgB_no (de := de) (qu := qu) (wi := wi) (ti := ti) (qa := qa) (bu := bu) (le := le) (b := b) (c := c) (j := j) (t := t) (fun h => inB_no h4 (by unfold CfgOk at h; omega)))
    clear h4
    go_wp2_with fail
    go_ret
    exact ⟨by rw [HN.out]; rfl, bOne _ _⟩
  have H4 := Lib.hid (inB_yes h4)
  clear h4
  go_wp2_with fail
  refine (in_any bu 1 de _).mono ?_
  rintro e w5 ⟨rfl, rfl⟩
  cases h5 : inB 1 de bu
  · have HN := Lib.hid (cfgB_no (de := de) (qu := qu) (wi := wi) (ti := ti) (qa := qa) (bu := bu) (le := le) (b := b) (c := c) (j := j) (t := t) (fun h => inB_no h5 (by unfold CfgOk at h; omega)))
    clear h5
    go_wp2_with fail
    go_ret
    exact ⟨by rw [HN.out]; rfl, bOne _ _⟩
  have H5 := Lib.hid (inB_yes h5)
  clear h5
  go_wp2_with fail
  refine (in_any le 1 20 _).mono ?_
  rintro e w6 ⟨rfl, rfl⟩
  cases h6 : inB 1 20 le
  · have HN := Lib.hid (cfgB_no (de := de) (qu := qu) (wi := wi) (ti := ti) (qa := qa) (bu := bu) (le := le) (b := b) (c := c) (j := j) (t := t) (fun h => inB_no h6 (by unfold CfgOk at h; omega)))
    clear h6
    go_wp2_with fail
    go_ret
    exact ⟨by rw [HN.out]; rfl, bOne _ _⟩
  have H6 := Lib.hid (inB_yes h6)
  clear h6
  go_wp2_with fail
  refine (Pol.specOk_any b c j t _).mono ?_
  rintro e w1 ⟨rfl, hb1⟩
  have HL := Lib.hid (bAfter (bOne w _) hb1 (by simp))
  clear hb1
  obtain ⟨x, hx⟩ : ∃ x, x = polB b c j t := ⟨_, rfl⟩
  rw [← hx]
  have HX := Lib.hid hx
  clear hx
  go_wp2_with fail
  go_ret
  refine ⟨?_, HL.out⟩
  rw [HX.out]
  exact bool_iff (by have := H0.out; have := H1.out; have := H2.out; have := H3.out; have := H4.out; have := H5.out; have := H6.out; unfold CfgOk PolOk; omega)

end Go.Proofs.Ytecfomaapomncaa.Gat
