/-
  How the exact laws take a message: its size, its copy, two messages compared; the walks of the laws FnExactEventOk, FnExactKnocked and FnExactBack.
-/
import Derived.Test.YtjcopkjapnieoaaDoorEvW
namespace Go.Proofs.YtjcopkjapnieoaaDoor.Evt
open Go.RowKit
set_option linter.unusedVariables false

set_option maxRecDepth 100000 in
theorem toEvent_any (i d c : Int) (b : ByteArray) (a t r n s : Int) (w : World) :
    Calls Tryd.prog 13 #[.agg #[.int .i64 i, .int .i64 d, .int .i64 c, .string b, .int .i64 a, .int .i64 t, .int .i64 r, .int .i64 n, .int .i64 s]] w fun e w' => e = .returned (.agg #[.int .i64 i, .int .i64 d, .int .i64 c, .string b, .int .i64 a, .int .i64 t, .int .i64 r, .int .i64 n, .int .i64 s]) ∧ Below w.heap.size w w' := by
  go_enter Tryd.func13, Tryd.ntmps13
  go_wp2
  refine bodyPost_ret (v := .agg #[.int .i64 i, .int .i64 d, .int .i64 c, .string b, .int .i64 a, .int .i64 t, .int .i64 r, .int .i64 n, .int .i64 s]) (by simp [results, Tryd.results13, go_sem]) rfl ⟨rfl, ?_⟩
  repeat' first | exact Below.refl _ _ | (refine Below.setCell ?_ (by simp; try omega) _) | (refine Below.alloc ?_ (by simp; try omega) _) | refine Below.drew ?_

theorem szEvent_big (i d c : Int) (b : ByteArray) (a t r n s : Int) (w : World) (hb : b.size ≤ maxLen) (h : 1048576 < b.size) :
    Calls Tryd.prog 12 #[.agg #[.int .i64 i, .int .i64 d, .int .i64 c, .string b, .int .i64 a, .int .i64 t, .int .i64 r, .int .i64 n, .int .i64 s], .int .i64 1048576] w fun en w' => en = .returned (.int .i64 (-1)) ∧ Below w.heap.size w w' := by
  unfold maxLen at hb
  have hsub : IntKind.i64.wrap (1048576 - (b.size : Int)) = 1048576 - (b.size : Int) := IntWalk.i64_in _ (by omega)
  have hsub2 : wrap64 (1048576 - (b.size : Int)) = 1048576 - (b.size : Int) := by unfold wrap64; omega
  have hlt : 1048576 - (b.size : Int) < 0 := by omega
  go_enter Tryd.func12, Tryd.ntmps12
  go_wp2
  go_ret
  exact ⟨rfl, bOne _ _⟩

theorem szEvent_ok (i d c : Int) (b : ByteArray) (a t r n s : Int) (w : World) (hb : b.size ≤ maxLen) (h : b.size ≤ 1048576) :
    Calls Tryd.prog 12 #[.agg #[.int .i64 i, .int .i64 d, .int .i64 c, .string b, .int .i64 a, .int .i64 t, .int .i64 r, .int .i64 n, .int .i64 s], .int .i64 1048576] w fun en w' => en = .returned (.int .i64 (1048576 - b.size)) ∧ Below w.heap.size w w' := by
  unfold maxLen at hb
  have hsub : IntKind.i64.wrap (1048576 - (b.size : Int)) = 1048576 - (b.size : Int) := IntWalk.i64_in _ (by omega)
  have hsub2 : wrap64 (1048576 - (b.size : Int)) = 1048576 - (b.size : Int) := by unfold wrap64; omega
  have hlt : ¬ (1048576 - (b.size : Int) < 0) := by omega
  have hge : 0 ≤ 1048576 - (b.size : Int) := by omega
  go_enter Tryd.func12, Tryd.ntmps12
  go_wp2
  go_ret
  exact ⟨rfl, bOne _ _⟩

end Go.Proofs.YtjcopkjapnieoaaDoor.Evt
