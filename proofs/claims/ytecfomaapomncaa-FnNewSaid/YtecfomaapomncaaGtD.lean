/-
  A config that came in, copied; the walk of the law FnExactConfigOk.
-/
import Derived.Test.YtecfomaapomncaaGtC
import Derived.Test.YtecfomaapomncaaLkX
namespace Go.Proofs.Ytecfomaapomncaa.Gat
open Go.RowKit
open Pol (bool_iff bool_no bOne bAfter PolOk polB)
set_option linter.unusedVariables false

set_option maxRecDepth 100000 in
set_option maxHeartbeats 2000000 in
theorem toConfig_any (de qu wi ti qa bu le b c j t : Int) (w : World) :
    Calls Try.prog 20 #[.agg #[.int .i64 de, .int .i64 qu, .int .i64 wi, .int .i64 ti, .int .i64 qa, .int .i64 bu, .int .i64 le, .int .i64 b, .int .i64 c, .int .i64 j, .int .i64 t]] w fun e w' => e = .returned (.agg #[.int .i64 de, .int .i64 qu, .int .i64 wi, .int .i64 ti, .int .i64 qa, .int .i64 bu, .int .i64 le, .int .i64 b, .int .i64 c, .int .i64 j, .int .i64 t]) ∧ Below w.heap.size w w' := by
  go_enter Try.func20, Try.ntmps20
  go_wp2_with fail
  refine (Pol.toPolicy_any b c j t _).mono ?_
  rintro e w3 ⟨rfl, hb3⟩
  obtain ⟨hc, hf⟩ := Lnk.bcell hb3
  have hz : w.heap.size + 3 ≤ w3.heap.size := by have := hb3.size; simp at this; omega
  have HB3 := Lib.hid hb3
  clear hb3
  go_wp2_with fail
  refine bodyPost_ret (v := .agg #[.int .i64 de, .int .i64 qu, .int .i64 wi, .int .i64 ti, .int .i64 qa, .int .i64 bu, .int .i64 le, .int .i64 b, .int .i64 c, .int .i64 j, .int .i64 t]) (by simp [results, Try.results20, go_sem, hc]) rfl ⟨rfl, ?_⟩
  have h1 : Below w.heap.size w w3 := by
    refine Below.trans ?_ (HB3.out.mono (by simp; omega))
    repeat' first
      | with_reducible exact Below.refl _ _
      | refine Below.setCell ?_ (by simp; try omega) _
      | refine Below.alloc ?_ (by simp; try omega) _
      | refine Below.drew ?_
  repeat' first
    | with_reducible exact h1
    | refine Below.setCell ?_ (by simp; try omega) _
    | refine Below.alloc ?_ (by simp; try omega) _
    | refine Below.drew ?_

/-- the law's own walk -/
theorem exactConfigOk_walk (w : World) (de qu wi ti qa bu le b c j t : Int) :
    Calls Try.prog 4 #[.agg #[.int .i64 de, .int .i64 qu, .int .i64 wi, .int .i64 ti, .int .i64 qa, .int .i64 bu, .int .i64 le, .int .i64 b, .int .i64 c, .int .i64 j, .int .i64 t]] w fun e w' => e = .returned (.bool true) ∧ Below w.heap.size w w' := by
  have HB0 := Lib.hid (B11.new w de qu wi ti qa bu le b c j t 45)
  go_enter Try.func4, Try.ntmps4
  go_wp2_with fail
  refine (toConfig_any de qu wi ti qa bu le b c j t _).mono ?_
  rintro e w1 ⟨rfl, hb1⟩
  have HL1 := Lib.hid (bAfter (bOne w _) hb1 (by simp))
  go_wp2_with fail
  refine (specCfg_any de qu wi ti qa bu le b c j t _).mono ?_
  rintro e w2 ⟨rfl, hb2⟩
  have HL2 := Lib.hid (bAfter HL1.out hb2 HL1.out.size)
  have HB2 := Lib.hid ((HB0.out.below hb1).below hb2)
  clear hb1 hb2
  obtain ⟨x0, x1, x2, x3, x4, x5, x6, x7, x8, x9, x10, hlt⟩ := HB2.out
  go_wp2_with fail
  refine (toConfig_any de qu wi ti qa bu le b c j t _).mono ?_
  rintro e w3 ⟨rfl, hb3⟩
  have HL3 := Lib.hid (bAfter HL2.out hb3 HL2.out.size)
  go_wp2_with fail
  refine (implCfg_any de qu wi ti qa bu le b c j t _).mono ?_
  rintro e w4 ⟨rfl, hb4⟩
  have HL4 := Lib.hid (bAfter HL3.out hb4 HL3.out.size)
  go_wp2
  go_ret
  exact ⟨rfl, HL4.out⟩
end Go.Proofs.Ytecfomaapomncaa.Gat
