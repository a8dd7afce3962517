/-
  The walk of spec's l02Copy.
-/
import Derived.Test.YtkoliacbajpijaaDoorSpcA
namespace Go.Proofs.YtkoliacbajpijaaDoor.Whl
open Go.RowKit Go.Maps
set_option linter.unusedVariables false

set_option maxRecDepth 100000 in
set_option maxHeartbeats 1000000 in
theorem l02Copy_any (w : World) (a : Option Addr) (len cap : Nat) (now : Int) (l : List T) (h : TIs w.heap.size w a len l) (hlen : len ≤ 1048576) (hcap : a = none → cap = 0) :
    Calls Tryd.prog 47 #[.agg #[.int .i64 now, .slice a len cap]] w fun e w' => WheelEnd w.heap.size w w' now l e := by
  have hfr := fr_two w a len cap now l h
  clear h
  go_enter Tryd.func47, Tryd.ntmps47
  go_wp2_with fail
  obtain ⟨W, hW⟩ : ∃ W, W = (w.alloc (.cells #[.int .i64 now, .slice a len cap] 26)).alloc (.cells #[.int .i64 0, .slice none 0 0] 26) := ⟨_, rfl⟩
  rw [← hW] at hfr ⊢
  clear hW
  have HF := Lib.hid hfr
  obtain ⟨c0, c1, c2, c3, f2, f3⟩ := hfr.cells
  have hbd : Below W.heap.size W (W.drew.alloc (.cells #[] 28)) := (below_drew' (Below.refl _ _)).alloc (Nat.le_refl _) _
  have HTI := Lib.hid (hfr.tis.here hbd)
  have HBD := Lib.hid hbd
  have HTN := Lib.hid (tnil W.drew)
  have hlt0 : w.heap.size < W.heap.size := hfr.b0.lt
  have hlt1 : w.heap.size + 1 < W.heap.size := hfr.b1.lt
  clear hfr hbd
  go_region_law (refine step_append_run rfl _ _ _ rfl _ _ (by simp [Act.eval]) (by simp [Act.eval]) (app_tis HTN.out HTI.out hcap (by simp; omega) (by simp)) ?_; intro v' w2 happ; obtain ⟨a', cap', rfl⟩ := TOwn.shape (l := l) happ.1; have HA := Lib.hid (show TOwn W.heap.size w2 28 (.slice a' l.length cap') l from happ.1); have hb2 := happ.below HBD.out (Nat.le_refl _) (fun k e => by cases e; exact Nat.le_refl _); have HF2 := Lib.hid (HF.out.step hb2); have HEND := Lib.hid (fun x y => HF.out.end_ hb2 HF.out.b1.lt (Nat.le_refl _) HA.out x y); clear happ hb2; obtain ⟨d0, d1, d2, d3, g2, g3⟩ := HF2.out.cells)
  all_goals
    go_wp2_with fail
    exact bodyPost_ret (v := .agg #[.int .i64 now, .slice a' l.length cap']) (by simp [results, Tryd.results47, go_sem, d2, d3]) rfl ⟨⟨a', cap', rfl, (HEND.out _ _).1⟩, (HEND.out _ _).2⟩
end Go.Proofs.YtkoliacbajpijaaDoor.Whl
