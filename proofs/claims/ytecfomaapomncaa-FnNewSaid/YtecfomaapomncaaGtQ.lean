/-
  A gate compared with its like.
-/
import Derived.Test.YtecfomaapomncaaGtT
namespace Go.Proofs.Ytecfomaapomncaa.Gat
open Go.RowKit
open Lnk (bOne bAfter IOwn IIs below_keep below_drew' bcell low_after low_alloc)
set_option linter.unusedVariables false

theorem eqPolicy_same (b c j t : Int) (w : World) :
    Calls Try.prog 88 #[.agg #[.int .i64 b, .int .i64 c, .int .i64 j, .int .i64 t], .agg #[.int .i64 b, .int .i64 c, .int .i64 j, .int .i64 t]] w fun e w' => e = .returned (.bool true) ∧ Below w.heap.size w w' := by
  go_enter Try.func88, Try.ntmps88
  go_wp2
  go_ret
  exact ⟨rfl, ((Below.refl _ _).alloc (Nat.le_refl _) _).alloc (by simp) _⟩

set_option maxRecDepth 100000 in
set_option maxHeartbeats 2000000 in
theorem eqConfig_same (de qu wi ti qa bu le pb pc pj pt : Int) (w : World) :
    Calls Try.prog 58 #[.agg #[.int .i64 de, .int .i64 qu, .int .i64 wi, .int .i64 ti, .int .i64 qa, .int .i64 bu, .int .i64 le, .int .i64 pb, .int .i64 pc, .int .i64 pj, .int .i64 pt], .agg #[.int .i64 de, .int .i64 qu, .int .i64 wi, .int .i64 ti, .int .i64 qa, .int .i64 bu, .int .i64 le, .int .i64 pb, .int .i64 pc, .int .i64 pj, .int .i64 pt]] w fun e w' => e = .returned (.bool true) ∧ Below w.heap.size w w' := by
  go_enter Try.func58, Try.ntmps58
  go_wp2_with fail
  refine (eqPolicy_same pb pc pj pt _).mono ?_
  rintro e w1 ⟨rfl, hb1⟩
  have HL : Hid (Below w.heap.size w w1) := Lib.hid ((((Below.refl _ _).alloc (Nat.le_refl _) _).alloc (by simp) _).trans (hb1.mono (by simp; omega)))
  clear hb1
  go_wp2_with fail
  go_ret
  exact ⟨rfl, HL.out⟩

set_option maxRecDepth 100000 in
set_option maxHeartbeats 4000000 in
theorem eqGate_same (w : World) (de qu wi ti qa bu le pb pc pj pt nw la : Int) (ea1 : Option Addr) (en ec1 : Nat) (ka1 : Option Addr) (kn kc1 : Nat) (tu : Int) (fa1 : Option Addr) (fn fc1 : Nat) (ra1 : Option Addr) (rn rc1 : Nat) (tk ac dr : Int) (ea2 : Option Addr) (ec2 : Nat) (ka2 : Option Addr) (kc2 : Nat) (fa2 : Option Addr) (fc2 : Nat) (ra2 : Option Addr) (rc2 : Nat) (E : List Ev) (K : List Lk) (F R : List Int) (h1 : GIs w.heap.size w ea1 en ka1 kn fa1 fn ra1 rn E K F R) (h2 : GIs w.heap.size w ea2 en ka2 kn fa2 fn ra2 rn E K F R) (hf : fn ≤ 2000000) (hr : rn ≤ 2000000) :
    Calls Try.prog 24 #[.agg #[.int .i64 de, .int .i64 qu, .int .i64 wi, .int .i64 ti, .int .i64 qa, .int .i64 bu, .int .i64 le, .int .i64 pb, .int .i64 pc, .int .i64 pj, .int .i64 pt, .int .i64 nw, .int .i64 la, .slice ea1 en ec1, .slice ka1 kn kc1, .int .i64 tu, .slice fa1 fn fc1, .slice ra1 rn rc1, .int .i64 tk, .int .i64 ac, .int .i64 dr], .agg #[.int .i64 de, .int .i64 qu, .int .i64 wi, .int .i64 ti, .int .i64 qa, .int .i64 bu, .int .i64 le, .int .i64 pb, .int .i64 pc, .int .i64 pj, .int .i64 pt, .int .i64 nw, .int .i64 la, .slice ea2 en ec2, .slice ka2 kn kc2, .int .i64 tu, .slice fa2 fn fc2, .slice ra2 rn rc2, .int .i64 tk, .int .i64 ac, .int .i64 dr]] w fun e w' => e = .returned (.bool true) ∧ Below w.heap.size w w' := by
  obtain ⟨W0, hW0⟩ : ∃ W, W = (w.alloc (.cells #[.int .i64 de, .int .i64 qu, .int .i64 wi, .int .i64 ti, .int .i64 qa, .int .i64 bu, .int .i64 le, .int .i64 pb, .int .i64 pc, .int .i64 pj, .int .i64 pt, .int .i64 nw, .int .i64 la, .slice ea1 en ec1, .slice ka1 kn kc1, .int .i64 tu, .slice fa1 fn fc1, .slice ra1 rn rc1, .int .i64 tk, .int .i64 ac, .int .i64 dr] 33)).alloc (.cells #[.int .i64 de, .int .i64 qu, .int .i64 wi, .int .i64 ti, .int .i64 qa, .int .i64 bu, .int .i64 le, .int .i64 pb, .int .i64 pc, .int .i64 pj, .int .i64 pt, .int .i64 nw, .int .i64 la, .slice ea2 en ec2, .slice ka2 kn kc2, .int .i64 tu, .slice fa2 fn fc2, .slice ra2 rn rc2, .int .i64 tk, .int .i64 ac, .int .i64 dr] 33) := ⟨_, rfl⟩
  have hb01 := bOne w (.cells #[.int .i64 de, .int .i64 qu, .int .i64 wi, .int .i64 ti, .int .i64 qa, .int .i64 bu, .int .i64 le, .int .i64 pb, .int .i64 pc, .int .i64 pj, .int .i64 pt, .int .i64 nw, .int .i64 la, .slice ea1 en ec1, .slice ka1 kn kc1, .int .i64 tu, .slice fa1 fn fc1, .slice ra1 rn rc1, .int .i64 tk, .int .i64 ac, .int .i64 dr] 33)
  have hb02 := bOne (w.alloc (.cells #[.int .i64 de, .int .i64 qu, .int .i64 wi, .int .i64 ti, .int .i64 qa, .int .i64 bu, .int .i64 le, .int .i64 pb, .int .i64 pc, .int .i64 pj, .int .i64 pt, .int .i64 nw, .int .i64 la, .slice ea1 en ec1, .slice ka1 kn kc1, .int .i64 tu, .slice fa1 fn fc1, .slice ra1 rn rc1, .int .i64 tk, .int .i64 ac, .int .i64 dr] 33)) (.cells #[.int .i64 de, .int .i64 qu, .int .i64 wi, .int .i64 ti, .int .i64 qa, .int .i64 bu, .int .i64 le, .int .i64 pb, .int .i64 pc, .int .i64 pj, .int .i64 pt, .int .i64 nw, .int .i64 la, .slice ea2 en ec2, .slice ka2 kn kc2, .int .i64 tu, .slice fa2 fn fc2, .slice ra2 rn rc2, .int .i64 tk, .int .i64 ac, .int .i64 dr] 33)
  have HA0 : Hid (Box W0 (w.heap.size) 33 [.int .i64 de, .int .i64 qu, .int .i64 wi, .int .i64 ti, .int .i64 qa, .int .i64 bu, .int .i64 le, .int .i64 pb, .int .i64 pc, .int .i64 pj, .int .i64 pt, .int .i64 nw, .int .i64 la, .slice ea1 en ec1, .slice ka1 kn kc1, .int .i64 tu, .slice fa1 fn fc1, .slice ra1 rn rc1, .int .i64 tk, .int .i64 ac, .int .i64 dr]) := Lib.hid (by
    rw [hW0]
    exact (Box.new w [.int .i64 de, .int .i64 qu, .int .i64 wi, .int .i64 ti, .int .i64 qa, .int .i64 bu, .int .i64 le, .int .i64 pb, .int .i64 pc, .int .i64 pj, .int .i64 pt, .int .i64 nw, .int .i64 la, .slice ea1 en ec1, .slice ka1 kn kc1, .int .i64 tu, .slice fa1 fn fc1, .slice ra1 rn rc1, .int .i64 tk, .int .i64 ac, .int .i64 dr] 33).below hb02)
  have HB0 : Hid (Box W0 (w.heap.size + 1) 33 [.int .i64 de, .int .i64 qu, .int .i64 wi, .int .i64 ti, .int .i64 qa, .int .i64 bu, .int .i64 le, .int .i64 pb, .int .i64 pc, .int .i64 pj, .int .i64 pt, .int .i64 nw, .int .i64 la, .slice ea2 en ec2, .slice ka2 kn kc2, .int .i64 tu, .slice fa2 fn fc2, .slice ra2 rn rc2, .int .i64 tk, .int .i64 ac, .int .i64 dr]) := Lib.hid (by
    rw [hW0]
    have := Box.new (w.alloc (.cells #[.int .i64 de, .int .i64 qu, .int .i64 wi, .int .i64 ti, .int .i64 qa, .int .i64 bu, .int .i64 le, .int .i64 pb, .int .i64 pc, .int .i64 pj, .int .i64 pt, .int .i64 nw, .int .i64 la, .slice ea1 en ec1, .slice ka1 kn kc1, .int .i64 tu, .slice fa1 fn fc1, .slice ra1 rn rc1, .int .i64 tk, .int .i64 ac, .int .i64 dr] 33)) [.int .i64 de, .int .i64 qu, .int .i64 wi, .int .i64 ti, .int .i64 qa, .int .i64 bu, .int .i64 le, .int .i64 pb, .int .i64 pc, .int .i64 pj, .int .i64 pt, .int .i64 nw, .int .i64 la, .slice ea2 en ec2, .slice ka2 kn kc2, .int .i64 tu, .slice fa2 fn fc2, .slice ra2 rn rc2, .int .i64 tk, .int .i64 ac, .int .i64 dr] 33
    simpa using this)
  have HL0 : Hid (Below w.heap.size w W0) := Lib.hid (by rw [hW0]; exact hb01.trans (hb02.mono (by simp)))
  have HWE := Lib.hid hW0
  have H1 := Lib.hid h1
  have H2 := Lib.hid h2
  clear hW0 hb01 hb02 h1 h2
  go_enter Try.func24, Try.ntmps24
  go_wp2_with fail
  rw [← HWE.out]
  refine (eqConfig_same de qu wi ti qa bu le pb pc pj pt _).mono ?_
  rintro e w1 ⟨rfl, hb⟩
  have HA1 := Lib.hid (HA0.out.below hb)
  have HB1 := Lib.hid (HB0.out.below hb)
  have HLc := Lib.hid (low_after HL0.out hb)
  clear hb
  have c11 := HA1.out.cell 11 _ rfl
  have d11 := HB1.out.cell 11 _ rfl
  have c12 := HA1.out.cell 12 _ rfl
  have d12 := HB1.out.cell 12 _ rfl
  have c13 := HA1.out.cell 13 _ rfl
  have d13 := HB1.out.cell 13 _ rfl
  go_wp2_with fail
  refine (eqEventS_yes _ _ ea1 ea2 en ec1 ec2 E (H1.out.ev.here HLc.out) (H2.out.ev.here HLc.out) (Nat.le_refl _)).mono ?_
  rintro e w2 ⟨rfl, hb⟩
  have HA2 := Lib.hid (HA1.out.below hb)
  have HB2 := Lib.hid (HB1.out.below hb)
  have HL1 := Lib.hid (low_after HLc.out hb)
  clear hb
  clear c11 d11 c12 d12 c13 d13
  have c14 := HA2.out.cell 14 _ rfl
  have d14 := HB2.out.cell 14 _ rfl
  go_wp2_with fail
  refine (eqLinkS_yes _ _ ka1 ka2 kn kc1 kc2 K (H1.out.lk.here HL1.out) (H2.out.lk.here HL1.out) (Nat.le_refl _)).mono ?_
  rintro e w3 ⟨rfl, hb⟩
  have HA3 := Lib.hid (HA2.out.below hb)
  have HB3 := Lib.hid (HB2.out.below hb)
  have HL2 := Lib.hid (low_after HL1.out hb)
  clear hb
  clear c14 d14
  have c15 := HA3.out.cell 15 _ rfl
  have d15 := HB3.out.cell 15 _ rfl
  have c16 := HA3.out.cell 16 _ rfl
  have d16 := HB3.out.cell 16 _ rfl
  go_wp2_with fail
  refine (Lnk.eqIntS_yes _ _ fa1 fa2 fn fc1 fc2 F (H1.out.lf.here HL2.out) (H2.out.lf.here HL2.out) hf (Nat.le_refl _)).mono ?_
  rintro e w4 ⟨rfl, hb⟩
  have HA4 := Lib.hid (HA3.out.below hb)
  have HB4 := Lib.hid (HB3.out.below hb)
  have HL3 := Lib.hid (low_after HL2.out hb)
  clear hb
  clear c15 d15 c16 d16
  have c17 := HA4.out.cell 17 _ rfl
  have d17 := HB4.out.cell 17 _ rfl
  go_wp2_with fail
  refine (Lnk.eqIntS_yes _ _ ra1 ra2 rn rc1 rc2 R (H1.out.lt.here HL3.out) (H2.out.lt.here HL3.out) hr (Nat.le_refl _)).mono ?_
  rintro e w5 ⟨rfl, hb⟩
  have HA5 := Lib.hid (HA4.out.below hb)
  have HB5 := Lib.hid (HB4.out.below hb)
  have HL4 := Lib.hid (low_after HL3.out hb)
  clear hb
  clear c17 d17
  have c18 := HA5.out.cell 18 _ rfl
  have d18 := HB5.out.cell 18 _ rfl
  have c19 := HA5.out.cell 19 _ rfl
  have d19 := HB5.out.cell 19 _ rfl
  have c20 := HA5.out.cell 20 _ rfl
  have d20 := HB5.out.cell 20 _ rfl
  go_wp2_with fail
  go_ret
  exact ⟨rfl, HL4.out⟩
end Go.Proofs.Ytecfomaapomncaa.Gat
