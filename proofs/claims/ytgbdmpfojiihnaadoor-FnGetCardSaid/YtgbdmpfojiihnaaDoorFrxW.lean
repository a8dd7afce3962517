/-
  How the exact laws take a frame: its size, its copy, two frames compared; the walk of the law FnExactFrameOk.
-/
import Derived.Test.YtgbdmpfojiihnaaDoorFokW
import Derived.Test.YtgbdmpfojiihnaaDoorFskW
namespace Go.Proofs.YtgbdmpfojiihnaaDoor.Frm
open Go.RowKit
set_option linter.unusedVariables false

/-- a frame's value -/
abbrev fv (k d e s i : Int) (b : ByteArray) : Value := .agg #[.int .i64 k, .int .i64 d, .int .i64 e, .int .i64 s, .int .i64 i, .string b]
abbrev fcells (k d e s i : Int) (b : ByteArray) : Array Value := #[.int .i64 k, .int .i64 d, .int .i64 e, .int .i64 s, .int .i64 i, .string b]
/-- a frame's box -/
structure B6 (w : World) (a : Nat) (k d e s i : Int) (b : ByteArray) : Prop where
  c0 : w.cell? ⟨a, 0, none⟩ = some (.int .i64 k)
  c1 : w.cell? ⟨a, 1, none⟩ = some (.int .i64 d)
  c2 : w.cell? ⟨a, 2, none⟩ = some (.int .i64 e)
  c3 : w.cell? ⟨a, 3, none⟩ = some (.int .i64 s)
  c4 : w.cell? ⟨a, 4, none⟩ = some (.int .i64 i)
  c5 : w.cell? ⟨a, 5, none⟩ = some (.string b)
  lt : a < w.heap.size
theorem B6.new (w : World) (k d e s i : Int) (b : ByteArray) (ty : TypeId) : B6 (w.alloc (.cells #[.int .i64 k, .int .i64 d, .int .i64 e, .int .i64 s, .int .i64 i, .string b] ty)) w.heap.size k d e s i b :=
  ⟨cell_of_row _ _ 0 _ ty (0, 0) (heap_alloc_new w _), cell_of_row _ _ 1 _ ty (0, 0) (heap_alloc_new w _), cell_of_row _ _ 2 _ ty (0, 0) (heap_alloc_new w _), cell_of_row _ _ 3 _ ty (0, 0) (heap_alloc_new w _), cell_of_row _ _ 4 _ ty (0, 0) (heap_alloc_new w _), cell_of_row _ _ 5 _ ty (0, 0) (heap_alloc_new w _), by simp⟩
theorem B6.below {w w' : World} {a : Nat} {k d e s i : Int} {b : ByteArray} (h : B6 w a k d e s i b) (hb : Below w.heap.size w w') : B6 w' a k d e s i b :=
  ⟨(hb.cell (p := ⟨a, 0, none⟩) h.lt).trans h.c0, (hb.cell (p := ⟨a, 1, none⟩) h.lt).trans h.c1, (hb.cell (p := ⟨a, 2, none⟩) h.lt).trans h.c2, (hb.cell (p := ⟨a, 3, none⟩) h.lt).trans h.c3, (hb.cell (p := ⟨a, 4, none⟩) h.lt).trans h.c4, (hb.cell (p := ⟨a, 5, none⟩) h.lt).trans h.c5, Nat.lt_of_lt_of_le h.lt hb.size⟩
theorem bOne (w : World) (o : Obj) : Below w.heap.size w (w.alloc o) := (Below.refl _ _).alloc (Nat.le_refl _) _
theorem bAfter {B : Nat} {a w w' : World} (h : Below B a w) (h2 : Below w.heap.size w w') (hB : B ≤ w.heap.size) : Below B a w' := h.trans (h2.mono hB)

set_option maxRecDepth 100000 in
theorem toFrame_any (k d e s i : Int) (b : ByteArray) (w : World) :
    Calls Tryd.prog 17 #[.agg #[.int .i64 k, .int .i64 d, .int .i64 e, .int .i64 s, .int .i64 i, .string b]] w fun en w' => en = .returned (.agg #[.int .i64 k, .int .i64 d, .int .i64 e, .int .i64 s, .int .i64 i, .string b]) ∧ Below w.heap.size w w' := by
  go_enter Tryd.func17, Tryd.ntmps17
  go_wp2
  refine bodyPost_ret (v := .agg #[.int .i64 k, .int .i64 d, .int .i64 e, .int .i64 s, .int .i64 i, .string b]) (by simp [results, Tryd.results17, go_sem]) rfl ⟨rfl, ?_⟩
  repeat' first
    | exact Below.refl _ _
    | refine Below.setCell ?_ (by simp; try omega) _
    | refine Below.alloc ?_ (by simp; try omega) _
    | refine Below.drew ?_

theorem szFrame_big (k d e s i : Int) (b : ByteArray) (w : World) (hb : b.size ≤ maxLen) (h : 1048576 < b.size) :
    Calls Tryd.prog 16 #[.agg #[.int .i64 k, .int .i64 d, .int .i64 e, .int .i64 s, .int .i64 i, .string b], .int .i64 1048576] w fun en w' => en = .returned (.int .i64 (-1)) ∧ Below w.heap.size w w' := by
  unfold maxLen at hb
  have hsub : IntKind.i64.wrap (1048576 - (b.size : Int)) = 1048576 - (b.size : Int) := IntWalk.i64_in _ (by omega)
  have hsub2 : wrap64 (1048576 - (b.size : Int)) = 1048576 - (b.size : Int) := by unfold wrap64; omega
  have hlt : 1048576 - (b.size : Int) < 0 := by omega
  go_enter Tryd.func16, Tryd.ntmps16
  go_wp2
  go_ret
  exact ⟨rfl, bOne _ _⟩

theorem szFrame_ok (k d e s i : Int) (b : ByteArray) (w : World) (hb : b.size ≤ maxLen) (h : b.size ≤ 1048576) :
    Calls Tryd.prog 16 #[.agg #[.int .i64 k, .int .i64 d, .int .i64 e, .int .i64 s, .int .i64 i, .string b], .int .i64 1048576] w fun en w' => en = .returned (.int .i64 (1048576 - b.size)) ∧ Below w.heap.size w w' := by
  unfold maxLen at hb
  have hsub : IntKind.i64.wrap (1048576 - (b.size : Int)) = 1048576 - (b.size : Int) := IntWalk.i64_in _ (by omega)
  have hsub2 : wrap64 (1048576 - (b.size : Int)) = 1048576 - (b.size : Int) := by unfold wrap64; omega
  have hlt : ¬ (1048576 - (b.size : Int) < 0) := by omega
  have hge : 0 ≤ 1048576 - (b.size : Int) := by omega
  go_enter Tryd.func16, Tryd.ntmps16
  go_wp2
  go_ret
  exact ⟨rfl, bOne _ _⟩

end Go.Proofs.YtgbdmpfojiihnaaDoor.Frm
