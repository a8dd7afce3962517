/-
  The walks of the deferred closure that recovers the code, and of GetFrame; the walk of the law FnExactGetFrame.
-/
import Derived.Test.YtgbdmpfojiihnaaDoorGetR
namespace Go.Proofs.YtgbdmpfojiihnaaDoor.Frm
open Go.RowKit Go.Proofs.YtgbdmpfojiihnaaDoor.Num
set_option linter.unusedVariables false

theorem assert_is (c : Int) (w : World) : (Instr.typeAssert (.iface 44 (.int .i64 c)) 20 44 true).run Tryd.prog w = .ok (.tuple #[.int .i64 c, .bool true]) w := by kernel_rfl
theorem assert_no (w : World) : (Instr.typeAssert .nilIface 20 44 true).run Tryd.prog w = .ok (.tuple #[.int .i64 0, .bool false]) w := by kernel_rfl

/-- the deferred closure, of a frame that panics with a code -/
theorem catch_told (p : Addr) (x c : Int) (older : List PanicEntry) (w : World) (hc : w.cell? p = some (.int .i64 x)) (hz : w.frozen? p = false) :
    CallsD Tryd.prog 23 #[.pointer (some p)] (.panicking ({ v := .iface 44 (.int .i64 c), recovered := false } :: older)) w fun e u' w' =>
      e = .returned (.tuple #[]) ∧ u' = .panicking ({ v := .iface 44 (.int .i64 c), recovered := true } :: older) ∧ w' = w.setCell p (.int .i64 c) := by
  refine callsD_of_wpS Tryd.func23 rfl fun c₀ cs hu => ?_
  have ha := assert_is c
  apply wpS_seq
  apply wpS_region
  simp [wpOpsS, go_sem, recoverD, hu, ha, Tryd.ntmps23, Exit.thenS]
  apply wpS_seq
  apply wpS_region
  simp [wpOpsS, go_sem, Exit.thenS]
  refine wpS_cond (t := true) (by simp [Act.eval, Array.replicate]) ?_
  simp only [if_true]
  apply wpS_region
  simp [wpOpsS, go_sem, hc, hz, bodyPostS, results, Tryd.results23]
theorem catch_idle (p : Addr) (w : World) :
    CallsD Tryd.prog 23 #[.pointer (some p)] .returning w fun e u' w' => e = .returned (.tuple #[]) ∧ u' = .returning ∧ w' = w := by
  refine callsD_of_wpS Tryd.func23 rfl fun c₀ cs hu => ?_
  have ha := assert_no
  apply wpS_seq
  apply wpS_region
  simp [wpOpsS, go_sem, recoverD, hu, ha, Tryd.ntmps23, Exit.thenS]
  apply wpS_seq
  apply wpS_region
  simp [wpOpsS, go_sem, Exit.thenS]
  refine wpS_cond (t := false) (by simp [Act.eval, Array.replicate]) ?_
  simp only [Bool.false_eq_true, if_false]
  refine wpS_of_wp (wp_skip ?_)
  cases c₀
  simp_all [bodyPostS, results, Tryd.results23]

theorem B6.set_other {w : World} {a : Nat} {k d e s i : Int} {b : ByteArray} (h : B6 w a k d e s i b) {p : Addr} (hp : p.block ≠ a) (v : Value) : B6 (w.setCell p v) a k d e s i b := by
  have hb : (w.setCell p v).heap[a]? = w.heap[a]? := heap_setCell_other w p a v (fun e => hp e.symm)
  exact ⟨(World.cell?_of_block (a := ⟨a, 0, none⟩) hb).trans h.c0, (World.cell?_of_block (a := ⟨a, 1, none⟩) hb).trans h.c1, (World.cell?_of_block (a := ⟨a, 2, none⟩) hb).trans h.c2, (World.cell?_of_block (a := ⟨a, 3, none⟩) hb).trans h.c3, (World.cell?_of_block (a := ⟨a, 4, none⟩) hb).trans h.c4, (World.cell?_of_block (a := ⟨a, 5, none⟩) hb).trans h.c5, by simpa using h.lt⟩
theorem one_six {w : World} {a c : Nat} (hne : c ≠ a) {x : Value} (h : w.cell? ⟨c, 0, none⟩ = some x) (v0 v1 v2 v3 v4 v5 : Value) :
    ((((((w.setCell ⟨a, 0, none⟩ v0).setCell ⟨a, 1, none⟩ v1).setCell ⟨a, 2, none⟩ v2).setCell ⟨a, 3, none⟩ v3).setCell ⟨a, 4, none⟩ v4).setCell ⟨a, 5, none⟩ v5).cell? ⟨c, 0, none⟩ = some x := by
  have g : ∀ (W : World) (j : Nat) (v : Value), (W.setCell ⟨a, j, none⟩ v).cell? ⟨c, 0, none⟩ = W.cell? ⟨c, 0, none⟩ := fun W j v => World.cell?_of_block (a := ⟨c, 0, none⟩) (heap_setCell_other W ⟨a, j, none⟩ c v hne)
  rw [g, g, g, g, g, g]
  exact h

set_option maxRecDepth 100000 in
set_option maxHeartbeats 1000000 in
theorem implGet_any (s : ByteArray) (w : World) (hs : s.size ≤ 281474976710656) :
    Calls Tryd.prog 7 #[.string s] w fun en w' => GotE s en ∧ Below w.heap.size w w' := by
  have hmf : ∀ (fn : Fn) (first cap : Array Value) (w : World), (Instr.makeFunc fn first cap).run Tryd.prog w = .ok (.func fn first cap) w := fun _ _ _ _ => rfl
  have HH0 := Lib.hid (show ((w.alloc (.cells #[.int .i64 0, .int .i64 0, .int .i64 0, .int .i64 0, .int .i64 0, .string ⟨#[]⟩] 26)).alloc (.cells #[.int .i64 0] 3)).heap[w.heap.size]? = some (.cells #[.int .i64 0, .int .i64 0, .int .i64 0, .int .i64 0, .int .i64 0, .string ⟨#[]⟩] 26 (0, 0)) from ((bOne (w.alloc (.cells #[.int .i64 0, .int .i64 0, .int .i64 0, .int .i64 0, .int .i64 0, .string ⟨#[]⟩] 26)) _).block _ (by simp)).trans (heap_alloc_new w _))
  have HC0 := Lib.hid (show ((w.alloc (.cells #[.int .i64 0, .int .i64 0, .int .i64 0, .int .i64 0, .int .i64 0, .string ⟨#[]⟩] 26)).alloc (.cells #[.int .i64 0] 3)).heap[w.heap.size + 1]? = some (.cells #[.int .i64 0] 3 (0, 0)) from by have := heap_alloc_new (w.alloc (.cells #[.int .i64 0, .int .i64 0, .int .i64 0, .int .i64 0, .int .i64 0, .string ⟨#[]⟩] 26)) (.cells #[.int .i64 0] 3); simpa using this)
  have HL0 := Lib.hid (show Below w.heap.size w ((w.alloc (.cells #[.int .i64 0, .int .i64 0, .int .i64 0, .int .i64 0, .int .i64 0, .string ⟨#[]⟩] 26)).alloc (.cells #[.int .i64 0] 3)) from low_alloc (bOne _ _) _)
  go_enter_defers Tryd.func7, Tryd.ntmps7
  go_wp2_with fail
  refine (read_any s _ hs).mono ?_
  rintro en w1 ⟨he, hb1⟩
  obtain ⟨hR, hFR⟩ := zero_kept0 hb1 HH0.out
  have hC := (hb1.block _ (at_lt HC0.out)).trans HC0.out
  have c6 : w1.cell? ⟨w.heap.size + 1, 0, none⟩ = some (.int .i64 0) := cell_of_row _ _ 0 _ 3 (0, 0) hC
  have f6 : w1.frozen? ⟨w.heap.size + 1, 0, none⟩ = false := by simp [World.frozen?, hC]
  have HL1 := Lib.hid (low_after HL0.out hb1)
  have HR := Lib.hid hR
  have f0 := hFR 0
  have f1 := hFR 1
  have f2 := hFR 2
  have f3 := hFR 3
  have f4 := hFR 4
  have f5 := hFR 5
  obtain ⟨c0, c1, c2, c3, c4, c5, hlt⟩ := hR
  clear hb1 hC hFR HH0 HC0 HL0
  rcases he with ⟨hc, rfl⟩ | ⟨hc, rfl⟩
  · go_wp2_with fail
    have HX := (six_set HR.out (gK s) (gD s) (gE s) (gS s) (gI s) (gB s (s.size - 2))).set_other (p := ⟨w.heap.size + 1, 0, none⟩) (by show w.heap.size + 1 ≠ w.heap.size; omega) (.int .i64 0)
    have HXL := (six_low HL1.out (Nat.le_refl _) (gK s) (gD s) (gE s) (gS s) (gI s) (gB s (s.size - 2))).setCell (p := ⟨w.heap.size + 1, 0, none⟩) (by show w.heap.size ≤ w.heap.size + 1; omega) (.int .i64 0)
    have HXC := World.cell?_setCell_same _ ⟨w.heap.size + 1, 0, none⟩ (.int .i64 0) (one_six (show w.heap.size + 1 ≠ w.heap.size by omega) c6 (.int .i64 (gK s)) (.int .i64 (gD s)) (.int .i64 (gE s)) (.int .i64 (gS s)) (.int .i64 (gI s)) (.string (gB s (s.size - 2))))
    obtain ⟨X, hX⟩ : ∃ X, X = (((((((w1.setCell ⟨w.heap.size, 0, none⟩ (.int .i64 (gK s))).setCell ⟨w.heap.size, 1, none⟩ (.int .i64 (gD s))).setCell ⟨w.heap.size, 2, none⟩ (.int .i64 (gE s))).setCell ⟨w.heap.size, 3, none⟩ (.int .i64 (gS s))).setCell ⟨w.heap.size, 4, none⟩ (.int .i64 (gI s))).setCell ⟨w.heap.size, 5, none⟩ (.string (gB s (s.size - 2)))).setCell ⟨w.heap.size + 1, 0, none⟩ (.int .i64 0)) := ⟨_, rfl⟩
    rw [← hX] at HX HXL HXC ⊢
    clear hX
    refine leaves_cons (f := 23) (args := #[.pointer (some ⟨w.heap.size + 1, 0, none⟩)]) (by simp) (by simp [go_sem]) ?_
    refine (catch_idle ⟨w.heap.size + 1, 0, none⟩ _).mono ?_
    rintro en u' w'' ⟨rfl, rfl, rfl⟩
    obtain ⟨x0, x1, x2, x3, x4, x5, hlx⟩ := HX
    simp [Leaves, settle, results, Tryd.results7, go_sem, x0, x1, x2, x3, x4, x5, HXC]
    exact ⟨.inl ⟨hc, rfl⟩, HXL⟩
  · unfold told
    go_wp2_with fail
    refine leaves_cons (f := 23) (args := #[.pointer (some ⟨w.heap.size + 1, 0, none⟩)]) (by simp) (by simp [go_sem]) ?_
    refine (catch_told ⟨w.heap.size + 1, 0, none⟩ 0 (gcode s) [] _ c6 f6).mono ?_
    rintro en u' w'' ⟨rfl, rfl, rfl⟩
    have HX := HR.out.set_other (p := ⟨w.heap.size + 1, 0, none⟩) (by show w.heap.size + 1 ≠ w.heap.size; omega) (.int .i64 (gcode s))
    have HXL := HL1.out.setCell (p := ⟨w.heap.size + 1, 0, none⟩) (by show w.heap.size ≤ w.heap.size + 1; omega) (.int .i64 (gcode s))
    have HXC := World.cell?_setCell_same _ ⟨w.heap.size + 1, 0, none⟩ (.int .i64 (gcode s)) c6
    obtain ⟨X, hX⟩ : ∃ X, X = (w1.setCell ⟨w.heap.size + 1, 0, none⟩ (.int .i64 (gcode s))) := ⟨_, rfl⟩
    rw [← hX] at HX HXL HXC ⊢
    clear hX
    obtain ⟨x0, x1, x2, x3, x4, x5, hlx⟩ := HX
    simp [Leaves, settle, results, Tryd.results7, go_sem, x0, x1, x2, x3, x4, x5, HXC]
    exact ⟨.inr ⟨hc, rfl⟩, HXL⟩

/-- what GetFrame tells, as a value -/
def gotV (s : ByteArray) : Value :=
  if gcode s = 0 then .agg #[.int .i64 (gK s), .int .i64 (gD s), .int .i64 (gE s), .int .i64 (gS s), .int .i64 (gI s), .string (gB s (s.size - 2))] else .agg #[.int .i64 0, .int .i64 0, .int .i64 0, .int .i64 0, .int .i64 0, .string ByteArray.empty]
theorem GotE.val {s : ByteArray} {en : Ending} (h : GotE s en) : ∃ k d e sq i b, gotV s = .agg #[.int .i64 k, .int .i64 d, .int .i64 e, .int .i64 sq, .int .i64 i, .string b] ∧ en = .returned (.tuple #[.agg #[.int .i64 k, .int .i64 d, .int .i64 e, .int .i64 sq, .int .i64 i, .string b], .int .i64 (gcode s)]) := by
  rcases h with ⟨hc, rfl⟩ | ⟨hc, rfl⟩
  · exact ⟨_, _, _, _, _, _, by rw [gotV, if_pos hc], by rw [hc]⟩
  · exact ⟨_, _, _, _, _, _, by rw [gotV, if_neg hc], rfl⟩

end Go.Proofs.YtgbdmpfojiihnaaDoor.Frm
