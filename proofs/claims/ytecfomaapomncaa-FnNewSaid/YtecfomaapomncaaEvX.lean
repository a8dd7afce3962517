/-
  How the exact laws take a message: its size, its copy, two messages compared; the walks of the laws FnExactEventOk, FnExactKnocked and FnExactBack.
-/
import Derived.Test.YtecfomaapomncaaEvW
namespace Go.Proofs.Ytecfomaapomncaa.Evt
open Go.RowKit
set_option linter.unusedVariables false

set_option maxRecDepth 100000 in
theorem toEvent_any (i d c : Int) (b : ByteArray) (a t r n s : Int) (w : World) :
    Calls Try.prog 86 #[.agg #[.int .i64 i, .int .i64 d, .int .i64 c, .string b, .int .i64 a, .int .i64 t, .int .i64 r, .int .i64 n, .int .i64 s]] w fun e w' => e = .returned (.agg #[.int .i64 i, .int .i64 d, .int .i64 c, .string b, .int .i64 a, .int .i64 t, .int .i64 r, .int .i64 n, .int .i64 s]) ∧ Below w.heap.size w w' := by
  go_enter Try.func86, Try.ntmps86
  go_wp2
  refine bodyPost_ret (v := .agg #[.int .i64 i, .int .i64 d, .int .i64 c, .string b, .int .i64 a, .int .i64 t, .int .i64 r, .int .i64 n, .int .i64 s]) (by simp [results, Try.results86, go_sem]) rfl ⟨rfl, ?_⟩
  repeat' first | exact Below.refl _ _ | (refine Below.setCell ?_ (by simp; try omega) _) | (refine Below.alloc ?_ (by simp; try omega) _) | refine Below.drew ?_

theorem szEvent_big (i d c : Int) (b : ByteArray) (a t r n s : Int) (w : World) (hb : b.size ≤ maxLen) (h : 1048576 < b.size) :
    Calls Try.prog 80 #[.agg #[.int .i64 i, .int .i64 d, .int .i64 c, .string b, .int .i64 a, .int .i64 t, .int .i64 r, .int .i64 n, .int .i64 s], .int .i64 1048576] w fun en w' => en = .returned (.int .i64 (-1)) ∧ Below w.heap.size w w' := by
  unfold maxLen at hb
  have hsub : IntKind.i64.wrap (1048576 - (b.size : Int)) = 1048576 - (b.size : Int) := IntWalk.i64_in _ (by omega)
  have hsub2 : wrap64 (1048576 - (b.size : Int)) = 1048576 - (b.size : Int) := by unfold wrap64; omega
  have hlt : 1048576 - (b.size : Int) < 0 := by omega
  go_enter Try.func80, Try.ntmps80
  go_wp2
  go_ret
  exact ⟨rfl, bOne _ _⟩

theorem szEvent_ok (i d c : Int) (b : ByteArray) (a t r n s : Int) (w : World) (hb : b.size ≤ maxLen) (h : b.size ≤ 1048576) :
    Calls Try.prog 80 #[.agg #[.int .i64 i, .int .i64 d, .int .i64 c, .string b, .int .i64 a, .int .i64 t, .int .i64 r, .int .i64 n, .int .i64 s], .int .i64 1048576] w fun en w' => en = .returned (.int .i64 (1048576 - b.size)) ∧ Below w.heap.size w w' := by
  unfold maxLen at hb
  have hsub : IntKind.i64.wrap (1048576 - (b.size : Int)) = 1048576 - (b.size : Int) := IntWalk.i64_in _ (by omega)
  have hsub2 : wrap64 (1048576 - (b.size : Int)) = 1048576 - (b.size : Int) := by unfold wrap64; omega
  have hlt : ¬ (1048576 - (b.size : Int) < 0) := by omega
  have hge : 0 ≤ 1048576 - (b.size : Int) := by omega
  go_enter Try.func80, Try.ntmps80
  go_wp2
  go_ret
  exact ⟨rfl, bOne _ _⟩

set_option maxRecDepth 100000 in
theorem eqEvent_same (i d c : Int) (b : ByteArray) (a t r n s : Int) (w : World) :
    Calls Try.prog 89 #[.agg #[.int .i64 i, .int .i64 d, .int .i64 c, .string b, .int .i64 a, .int .i64 t, .int .i64 r, .int .i64 n, .int .i64 s], .agg #[.int .i64 i, .int .i64 d, .int .i64 c, .string b, .int .i64 a, .int .i64 t, .int .i64 r, .int .i64 n, .int .i64 s]] w fun en w' => en = .returned (.bool true) ∧ Below w.heap.size w w' := by
  go_enter Try.func89, Try.ntmps89
  go_wp2
  go_ret
  exact ⟨rfl, ((Below.refl _ _).alloc (Nat.le_refl _) _).alloc (by simp) _⟩

end Go.Proofs.Ytecfomaapomncaa.Evt
