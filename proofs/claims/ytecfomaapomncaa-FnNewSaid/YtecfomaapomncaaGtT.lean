/-
  A gate that came in, copied.
-/
import Derived.Test.YtecfomaapomncaaGtG
import Derived.Test.YtecfomaapomncaaGtB
import Derived.Deep.DeepCutAuto
namespace Go.Proofs.Ytecfomaapomncaa.Gat
open Go.RowKit
open Lnk (bOne bAfter IOwn IIs below_keep below_drew' bcell low_after low_alloc)
set_option linter.unusedVariables false

/-- a gate that was handed back: its lists can be read -/
def GateEnd (w w' : World) (de qu wi ti qa bu le pb pc pj pt nw la : Int) (en kn : Nat) (tu : Int) (fn rn : Nat) (tk ac dr : Int) (E : List Ev) (K : List Lk) (F R : List Int) (e : Ending) : Prop :=
  (∃ ea1 ec1 ka1 kc1 fa1 fc1 ra1 rc1, e = .returned (.agg #[.int .i64 de, .int .i64 qu, .int .i64 wi, .int .i64 ti, .int .i64 qa, .int .i64 bu, .int .i64 le, .int .i64 pb, .int .i64 pc, .int .i64 pj, .int .i64 pt, .int .i64 nw, .int .i64 la, .slice ea1 en ec1, .slice ka1 kn kc1, .int .i64 tu, .slice fa1 fn fc1, .slice ra1 rn rc1, .int .i64 tk, .int .i64 ac, .int .i64 dr]) ∧ Fresh w.heap.size w' (fun w => GIs w.heap.size w ea1 en ka1 kn fa1 fn ra1 rn E K F R)) ∧ Below w.heap.size w w'

set_option maxRecDepth 100000 in
set_option maxHeartbeats 8000000 in
theorem toGate_any (w : World) (de qu wi ti qa bu le pb pc pj pt nw la : Int) (ea : Option Addr) (en ec : Nat) (ka : Option Addr) (kn kc : Nat) (tu : Int) (fa : Option Addr) (fn fc : Nat) (ra : Option Addr) (rn rc : Nat) (tk ac dr : Int) (E : List Ev) (K : List Lk) (F R : List Int) (h : GIs w.heap.size w ea en ka kn fa fn ra rn E K F R) (hs : Small en kn fn rn K) :
    Calls Try.prog 23 #[.agg #[.int .i64 de, .int .i64 qu, .int .i64 wi, .int .i64 ti, .int .i64 qa, .int .i64 bu, .int .i64 le, .int .i64 pb, .int .i64 pc, .int .i64 pj, .int .i64 pt, .int .i64 nw, .int .i64 la, .slice ea en ec, .slice ka kn kc, .int .i64 tu, .slice fa fn fc, .slice ra rn rc, .int .i64 tk, .int .i64 ac, .int .i64 dr]] w fun e w' => GateEnd w w' de qu wi ti qa bu le pb pc pj pt nw la en kn tu fn rn tk ac dr E K F R e := by
  obtain ⟨W0, hW0⟩ : ∃ W, W = ((w.alloc (.cells #[.int .i64 de, .int .i64 qu, .int .i64 wi, .int .i64 ti, .int .i64 qa, .int .i64 bu, .int .i64 le, .int .i64 pb, .int .i64 pc, .int .i64 pj, .int .i64 pt, .int .i64 nw, .int .i64 la, .slice ea en ec, .slice ka kn kc, .int .i64 tu, .slice fa fn fc, .slice ra rn rc, .int .i64 tk, .int .i64 ac, .int .i64 dr] 51)).alloc (.cells #[.int .i64 0, .int .i64 0, .int .i64 0, .int .i64 0, .int .i64 0, .int .i64 0, .int .i64 0, .int .i64 0, .int .i64 0, .int .i64 0, .int .i64 0, .int .i64 0, .int .i64 0, .slice none 0 0, .slice none 0 0, .int .i64 0, .slice none 0 0, .slice none 0 0, .int .i64 0, .int .i64 0, .int .i64 0] 33)).alloc (.cells #[.int .i64 0, .int .i64 0, .int .i64 0, .int .i64 0, .int .i64 0, .int .i64 0, .int .i64 0, .int .i64 0, .int .i64 0, .int .i64 0, .int .i64 0, .int .i64 0, .int .i64 0, .slice none 0 0, .slice none 0 0, .int .i64 0, .slice none 0 0, .slice none 0 0, .int .i64 0, .int .i64 0, .int .i64 0] 33) := ⟨_, rfl⟩
  have hb01 := bOne w (.cells #[.int .i64 de, .int .i64 qu, .int .i64 wi, .int .i64 ti, .int .i64 qa, .int .i64 bu, .int .i64 le, .int .i64 pb, .int .i64 pc, .int .i64 pj, .int .i64 pt, .int .i64 nw, .int .i64 la, .slice ea en ec, .slice ka kn kc, .int .i64 tu, .slice fa fn fc, .slice ra rn rc, .int .i64 tk, .int .i64 ac, .int .i64 dr] 51)
  have hb02 := bOne (w.alloc (.cells #[.int .i64 de, .int .i64 qu, .int .i64 wi, .int .i64 ti, .int .i64 qa, .int .i64 bu, .int .i64 le, .int .i64 pb, .int .i64 pc, .int .i64 pj, .int .i64 pt, .int .i64 nw, .int .i64 la, .slice ea en ec, .slice ka kn kc, .int .i64 tu, .slice fa fn fc, .slice ra rn rc, .int .i64 tk, .int .i64 ac, .int .i64 dr] 51)) (.cells #[.int .i64 0, .int .i64 0, .int .i64 0, .int .i64 0, .int .i64 0, .int .i64 0, .int .i64 0, .int .i64 0, .int .i64 0, .int .i64 0, .int .i64 0, .int .i64 0, .int .i64 0, .slice none 0 0, .slice none 0 0, .int .i64 0, .slice none 0 0, .slice none 0 0, .int .i64 0, .int .i64 0, .int .i64 0] 33)
  have hb03 := bOne ((w.alloc (.cells #[.int .i64 de, .int .i64 qu, .int .i64 wi, .int .i64 ti, .int .i64 qa, .int .i64 bu, .int .i64 le, .int .i64 pb, .int .i64 pc, .int .i64 pj, .int .i64 pt, .int .i64 nw, .int .i64 la, .slice ea en ec, .slice ka kn kc, .int .i64 tu, .slice fa fn fc, .slice ra rn rc, .int .i64 tk, .int .i64 ac, .int .i64 dr] 51)).alloc (.cells #[.int .i64 0, .int .i64 0, .int .i64 0, .int .i64 0, .int .i64 0, .int .i64 0, .int .i64 0, .int .i64 0, .int .i64 0, .int .i64 0, .int .i64 0, .int .i64 0, .int .i64 0, .slice none 0 0, .slice none 0 0, .int .i64 0, .slice none 0 0, .slice none 0 0, .int .i64 0, .int .i64 0, .int .i64 0] 33)) (.cells #[.int .i64 0, .int .i64 0, .int .i64 0, .int .i64 0, .int .i64 0, .int .i64 0, .int .i64 0, .int .i64 0, .int .i64 0, .int .i64 0, .int .i64 0, .int .i64 0, .int .i64 0, .slice none 0 0, .slice none 0 0, .int .i64 0, .slice none 0 0, .slice none 0 0, .int .i64 0, .int .i64 0, .int .i64 0] 33)
  have HA0 : Hid (Box W0 (w.heap.size) 51 [.int .i64 de, .int .i64 qu, .int .i64 wi, .int .i64 ti, .int .i64 qa, .int .i64 bu, .int .i64 le, .int .i64 pb, .int .i64 pc, .int .i64 pj, .int .i64 pt, .int .i64 nw, .int .i64 la, .slice ea en ec, .slice ka kn kc, .int .i64 tu, .slice fa fn fc, .slice ra rn rc, .int .i64 tk, .int .i64 ac, .int .i64 dr]) := Lib.hid (by
    rw [hW0]
    exact ((Box.new w [.int .i64 de, .int .i64 qu, .int .i64 wi, .int .i64 ti, .int .i64 qa, .int .i64 bu, .int .i64 le, .int .i64 pb, .int .i64 pc, .int .i64 pj, .int .i64 pt, .int .i64 nw, .int .i64 la, .slice ea en ec, .slice ka kn kc, .int .i64 tu, .slice fa fn fc, .slice ra rn rc, .int .i64 tk, .int .i64 ac, .int .i64 dr] 51).below hb02).below hb03)
  have HR0 : Hid (Box W0 (w.heap.size + 1) 33 [.int .i64 0, .int .i64 0, .int .i64 0, .int .i64 0, .int .i64 0, .int .i64 0, .int .i64 0, .int .i64 0, .int .i64 0, .int .i64 0, .int .i64 0, .int .i64 0, .int .i64 0, .slice none 0 0, .slice none 0 0, .int .i64 0, .slice none 0 0, .slice none 0 0, .int .i64 0, .int .i64 0, .int .i64 0]) := Lib.hid (by
    rw [hW0]
    have := (Box.new (w.alloc (.cells #[.int .i64 de, .int .i64 qu, .int .i64 wi, .int .i64 ti, .int .i64 qa, .int .i64 bu, .int .i64 le, .int .i64 pb, .int .i64 pc, .int .i64 pj, .int .i64 pt, .int .i64 nw, .int .i64 la, .slice ea en ec, .slice ka kn kc, .int .i64 tu, .slice fa fn fc, .slice ra rn rc, .int .i64 tk, .int .i64 ac, .int .i64 dr] 51)) [.int .i64 0, .int .i64 0, .int .i64 0, .int .i64 0, .int .i64 0, .int .i64 0, .int .i64 0, .int .i64 0, .int .i64 0, .int .i64 0, .int .i64 0, .int .i64 0, .int .i64 0, .slice none 0 0, .slice none 0 0, .int .i64 0, .slice none 0 0, .slice none 0 0, .int .i64 0, .int .i64 0, .int .i64 0] 33).below hb03
    simpa using this)
  have HO0 : Hid (Box W0 (w.heap.size + 1 + 1) 33 [.int .i64 0, .int .i64 0, .int .i64 0, .int .i64 0, .int .i64 0, .int .i64 0, .int .i64 0, .int .i64 0, .int .i64 0, .int .i64 0, .int .i64 0, .int .i64 0, .int .i64 0, .slice none 0 0, .slice none 0 0, .int .i64 0, .slice none 0 0, .slice none 0 0, .int .i64 0, .int .i64 0, .int .i64 0]) := Lib.hid (by
    rw [hW0]
    have := Box.new ((w.alloc (.cells #[.int .i64 de, .int .i64 qu, .int .i64 wi, .int .i64 ti, .int .i64 qa, .int .i64 bu, .int .i64 le, .int .i64 pb, .int .i64 pc, .int .i64 pj, .int .i64 pt, .int .i64 nw, .int .i64 la, .slice ea en ec, .slice ka kn kc, .int .i64 tu, .slice fa fn fc, .slice ra rn rc, .int .i64 tk, .int .i64 ac, .int .i64 dr] 51)).alloc (.cells #[.int .i64 0, .int .i64 0, .int .i64 0, .int .i64 0, .int .i64 0, .int .i64 0, .int .i64 0, .int .i64 0, .int .i64 0, .int .i64 0, .int .i64 0, .int .i64 0, .int .i64 0, .slice none 0 0, .slice none 0 0, .int .i64 0, .slice none 0 0, .slice none 0 0, .int .i64 0, .int .i64 0, .int .i64 0] 33)) [.int .i64 0, .int .i64 0, .int .i64 0, .int .i64 0, .int .i64 0, .int .i64 0, .int .i64 0, .int .i64 0, .int .i64 0, .int .i64 0, .int .i64 0, .int .i64 0, .int .i64 0, .slice none 0 0, .slice none 0 0, .int .i64 0, .slice none 0 0, .slice none 0 0, .int .i64 0, .int .i64 0, .int .i64 0] 33
    simpa using this)
  have HL0 : Hid (Below w.heap.size w W0) := Lib.hid (by rw [hW0]; exact (hb01.trans (hb02.mono (by simp))).trans (hb03.mono (by simp; omega)))
  have HWE := Lib.hid hW0
  clear hW0 hb01 hb02 hb03
  have HT := Lib.hid h
  have HS := Lib.hid hs
  clear h hs
  go_enter Try.func23, Try.ntmps23
  go_wp2_with fail
  rw [← HWE.out]
  refine (toConfig_any de qu wi ti qa bu le pb pc pj pt _).mono ?_
  rintro e w1 ⟨rfl, hb1⟩
  have HL := Lib.hid (low_after HL0.out hb1)
  have HA := Lib.hid (HA0.out.below hb1)
  have HR := Lib.hid (HR0.out.below hb1)
  have HO := Lib.hid (HO0.out.below hb1)
  clear hb1 HL0 HA0 HR0 HO0 HWE
  have c11 := HA.out.cell 11 _ rfl
  have c12 := HA.out.cell 12 _ rfl
  have c13 := HA.out.cell 13 _ rfl
  have d0 := HO.out.cell 0 _ rfl
  have f0 := HO.out.frozen 0
  have d1 := HO.out.cell 1 _ rfl
  have f1 := HO.out.frozen 1
  have d2 := HO.out.cell 2 _ rfl
  have f2 := HO.out.frozen 2
  have d3 := HO.out.cell 3 _ rfl
  have f3 := HO.out.frozen 3
  have d4 := HO.out.cell 4 _ rfl
  have f4 := HO.out.frozen 4
  have d5 := HO.out.cell 5 _ rfl
  have f5 := HO.out.frozen 5
  have d6 := HO.out.cell 6 _ rfl
  have f6 := HO.out.frozen 6
  have d7 := HO.out.cell 7 _ rfl
  have f7 := HO.out.frozen 7
  have d8 := HO.out.cell 8 _ rfl
  have f8 := HO.out.frozen 8
  have d9 := HO.out.cell 9 _ rfl
  have f9 := HO.out.frozen 9
  have d10 := HO.out.cell 10 _ rfl
  have f10 := HO.out.frozen 10
  have d11 := HO.out.cell 11 _ rfl
  have f11 := HO.out.frozen 11
  have d12 := HO.out.cell 12 _ rfl
  have f12 := HO.out.frozen 12
  go_wp2_with fail
  obtain ⟨V2, hV2⟩ : ∃ V, V = (((((((((((((w1.setCell ⟨w.heap.size + 1 + 1, 0, none⟩ (.int .i64 de)).setCell ⟨w.heap.size + 1 + 1, 1, none⟩ (.int .i64 qu)).setCell ⟨w.heap.size + 1 + 1, 2, none⟩ (.int .i64 wi)).setCell ⟨w.heap.size + 1 + 1, 3, none⟩ (.int .i64 ti)).setCell ⟨w.heap.size + 1 + 1, 4, none⟩ (.int .i64 qa)).setCell ⟨w.heap.size + 1 + 1, 5, none⟩ (.int .i64 bu)).setCell ⟨w.heap.size + 1 + 1, 6, none⟩ (.int .i64 le)).setCell ⟨w.heap.size + 1 + 1, 7, none⟩ (.int .i64 pb)).setCell ⟨w.heap.size + 1 + 1, 8, none⟩ (.int .i64 pc)).setCell ⟨w.heap.size + 1 + 1, 9, none⟩ (.int .i64 pj)).setCell ⟨w.heap.size + 1 + 1, 10, none⟩ (.int .i64 pt)).setCell ⟨w.heap.size + 1 + 1, 11, none⟩ (.int .i64 nw)).setCell ⟨w.heap.size + 1 + 1, 12, none⟩ (.int .i64 la)) := ⟨_, rfl⟩
  rw [← hV2]
  clear c11 c12 c13 d0 f0 d1 f1 d2 f2 d3 f3 d4 f4 d5 f5 d6 f6 d7 f7 d8 f8 d9 f9 d10 f10 d11 f11 d12 f12
  have hg2 : w1.grownBy V2 (some (w.heap.size + 1 + 1)) := by rw [hV2]; exact store_grown [.int .i64 de, .int .i64 qu, .int .i64 wi, .int .i64 ti, .int .i64 qa, .int .i64 bu, .int .i64 le, .int .i64 pb, .int .i64 pc, .int .i64 pj, .int .i64 pt, .int .i64 nw, .int .i64 la] 0 w1
  have HO2 : Hid (Box V2 (w.heap.size + 1 + 1) 33 [.int .i64 de, .int .i64 qu, .int .i64 wi, .int .i64 ti, .int .i64 qa, .int .i64 bu, .int .i64 le, .int .i64 pb, .int .i64 pc, .int .i64 pj, .int .i64 pt, .int .i64 nw, .int .i64 la, .slice none 0 0, .slice none 0 0, .int .i64 0, .slice none 0 0, .slice none 0 0, .int .i64 0, .int .i64 0, .int .i64 0]) := Lib.hid (by rw [hV2]; exact Box.store [.int .i64 de, .int .i64 qu, .int .i64 wi, .int .i64 ti, .int .i64 qa, .int .i64 bu, .int .i64 le, .int .i64 pb, .int .i64 pc, .int .i64 pj, .int .i64 pt, .int .i64 nw, .int .i64 la] 0 _ _ HO.out)
  have HA2 := Lib.hid (HA.out.grown hg2 (by simp; omega))
  have HR2 := Lib.hid (HR.out.grown hg2 (by simp))
  have HL2 : Hid (Below w.heap.size w V2) := Lib.hid (by rw [hV2]; exact store_below (by omega) [.int .i64 de, .int .i64 qu, .int .i64 wi, .int .i64 ti, .int .i64 qa, .int .i64 bu, .int .i64 le, .int .i64 pb, .int .i64 pc, .int .i64 pj, .int .i64 pt, .int .i64 nw, .int .i64 la] 0 _ _ HL.out)
  clear hV2 HO HA HR HL
  have HL := HL2
  clear HL2
  refine (toEventS_any _ ea en ec E (HT.out.ev.here HL.out) HS.out.1).mono ?_
  rintro e w2 ⟨⟨ea1, ec1, rfl, ho2⟩, hb2⟩
  rw [show E.length = en from HT.out.ev.row.hlen] at ho2 ⊢
  have HA := Lib.hid (HA2.out.below hb2)
  have HR := Lib.hid (HR2.out.below hb2)
  have HO := Lib.hid (HO2.out.below hb2)
  have HB2 := Lib.hid hb2
  have HL0 := Lib.hid (low_after HL.out hb2)
  have HV2 := Lib.hid (show w.heap.size + 3 ≤ V2.heap.size by have := HO2.out.lt; omega)
  have HP2 := Lib.hid (Fresh.mono (EIs.of_own ho2 HT.out.ev.body) HV2.out)
  clear hb2 ho2 HA2 HR2 HO2 HL
  have HL := HL0
  clear HL0
  clear hg2
  have c14 := HA.out.cell 14 _ rfl
  have d13 := HO.out.cell 13 _ rfl
  have f13 := HO.out.frozen 13
  go_wp2_with fail
  obtain ⟨V3, hV3⟩ : ∃ V, V = (w2.setCell ⟨w.heap.size + 1 + 1, 13, none⟩ (.slice ea1 en ec1)) := ⟨_, rfl⟩
  rw [← hV3]
  clear c14 d13 f13
  have hg3 : w2.grownBy V3 (some (w.heap.size + 1 + 1)) := by rw [hV3]; exact store_grown [.slice ea1 en ec1] 13 w2
  have HO3 : Hid (Box V3 (w.heap.size + 1 + 1) 33 [.int .i64 de, .int .i64 qu, .int .i64 wi, .int .i64 ti, .int .i64 qa, .int .i64 bu, .int .i64 le, .int .i64 pb, .int .i64 pc, .int .i64 pj, .int .i64 pt, .int .i64 nw, .int .i64 la, .slice ea1 en ec1, .slice none 0 0, .int .i64 0, .slice none 0 0, .slice none 0 0, .int .i64 0, .int .i64 0, .int .i64 0]) := Lib.hid (by rw [hV3]; exact Box.store [.slice ea1 en ec1] 13 _ _ HO.out)
  have HA3 := Lib.hid (HA.out.grown hg3 (by simp; omega))
  have HR3 := Lib.hid (HR.out.grown hg3 (by simp))
  have HL3 : Hid (Below w.heap.size w V3) := Lib.hid (by rw [hV3]; exact store_below (by omega) [.slice ea1 en ec1] 13 _ _ HL.out)
  clear hV3 HO HA HR HL
  have HL := HL3
  clear HL3
  refine (toLinkS_any _ ka kn kc K (HT.out.lk.here HL.out) HS.out.2.1 HS.out.2.2.1).mono ?_
  rintro e w3 ⟨⟨ka1, kc1, rfl, ho3⟩, hb3⟩
  rw [show K.length = kn from HT.out.lk.hlen] at ho3 ⊢
  have HA := Lib.hid (HA3.out.below hb3)
  have HR := Lib.hid (HR3.out.below hb3)
  have HO := Lib.hid (HO3.out.below hb3)
  have HB3 := Lib.hid hb3
  have HL0 := Lib.hid (low_after HL.out hb3)
  have HV3 := Lib.hid (show w.heap.size + 3 ≤ V3.heap.size by have := HO3.out.lt; omega)
  have HP2 := Lib.hid ((HP2.out.grown hg3 (by omega)).below hb3)
  have HP3 := Lib.hid (Fresh.mono (ho3) HV3.out)
  clear hb3 ho3 HA3 HR3 HO3 HL
  have HL := HL0
  clear HL0
  clear hg3
  have c15 := HA.out.cell 15 _ rfl
  have c16 := HA.out.cell 16 _ rfl
  have d14 := HO.out.cell 14 _ rfl
  have f14 := HO.out.frozen 14
  have d15 := HO.out.cell 15 _ rfl
  have f15 := HO.out.frozen 15
  go_wp2_with fail
  obtain ⟨V4, hV4⟩ : ∃ V, V = ((w3.setCell ⟨w.heap.size + 1 + 1, 14, none⟩ (.slice ka1 kn kc1)).setCell ⟨w.heap.size + 1 + 1, 15, none⟩ (.int .i64 tu)) := ⟨_, rfl⟩
  rw [← hV4]
  clear c15 c16 d14 f14 d15 f15
  have hg4 : w3.grownBy V4 (some (w.heap.size + 1 + 1)) := by rw [hV4]; exact store_grown [.slice ka1 kn kc1, .int .i64 tu] 14 w3
  have HO4 : Hid (Box V4 (w.heap.size + 1 + 1) 33 [.int .i64 de, .int .i64 qu, .int .i64 wi, .int .i64 ti, .int .i64 qa, .int .i64 bu, .int .i64 le, .int .i64 pb, .int .i64 pc, .int .i64 pj, .int .i64 pt, .int .i64 nw, .int .i64 la, .slice ea1 en ec1, .slice ka1 kn kc1, .int .i64 tu, .slice none 0 0, .slice none 0 0, .int .i64 0, .int .i64 0, .int .i64 0]) := Lib.hid (by rw [hV4]; exact Box.store [.slice ka1 kn kc1, .int .i64 tu] 14 _ _ HO.out)
  have HA4 := Lib.hid (HA.out.grown hg4 (by simp; omega))
  have HR4 := Lib.hid (HR.out.grown hg4 (by simp))
  have HL4 : Hid (Below w.heap.size w V4) := Lib.hid (by rw [hV4]; exact store_below (by omega) [.slice ka1 kn kc1, .int .i64 tu] 14 _ _ HL.out)
  clear hV4 HO HA HR HL
  have HL := HL4
  clear HL4
  refine (toIntS_any _ fa fn fc F (HT.out.lf.here HL.out) HS.out.2.2.2.1).mono ?_
  rintro e w4 ⟨⟨fa1, fc1, rfl, ho4⟩, hb4⟩
  rw [show F.length = fn from HT.out.lf.hlen] at ho4 ⊢
  have HA := Lib.hid (HA4.out.below hb4)
  have HR := Lib.hid (HR4.out.below hb4)
  have HO := Lib.hid (HO4.out.below hb4)
  have HB4 := Lib.hid hb4
  have HL0 := Lib.hid (low_after HL.out hb4)
  have HV4 := Lib.hid (show w.heap.size + 3 ≤ V4.heap.size by have := HO4.out.lt; omega)
  have HP2 := Lib.hid ((HP2.out.grown hg4 (by omega)).below hb4)
  have HP3 := Lib.hid ((HP3.out.grown hg4 (by omega)).below hb4)
  have HP4 := Lib.hid (Fresh.mono (IIs.of_own ho4) HV4.out)
  clear hb4 ho4 HA4 HR4 HO4 HL
  have HL := HL0
  clear HL0
  clear hg4
  have c17 := HA.out.cell 17 _ rfl
  have d16 := HO.out.cell 16 _ rfl
  have f16 := HO.out.frozen 16
  go_wp2_with fail
  obtain ⟨V5, hV5⟩ : ∃ V, V = (w4.setCell ⟨w.heap.size + 1 + 1, 16, none⟩ (.slice fa1 fn fc1)) := ⟨_, rfl⟩
  rw [← hV5]
  clear c17 d16 f16
  have hg5 : w4.grownBy V5 (some (w.heap.size + 1 + 1)) := by rw [hV5]; exact store_grown [.slice fa1 fn fc1] 16 w4
  have HO5 : Hid (Box V5 (w.heap.size + 1 + 1) 33 [.int .i64 de, .int .i64 qu, .int .i64 wi, .int .i64 ti, .int .i64 qa, .int .i64 bu, .int .i64 le, .int .i64 pb, .int .i64 pc, .int .i64 pj, .int .i64 pt, .int .i64 nw, .int .i64 la, .slice ea1 en ec1, .slice ka1 kn kc1, .int .i64 tu, .slice fa1 fn fc1, .slice none 0 0, .int .i64 0, .int .i64 0, .int .i64 0]) := Lib.hid (by rw [hV5]; exact Box.store [.slice fa1 fn fc1] 16 _ _ HO.out)
  have HA5 := Lib.hid (HA.out.grown hg5 (by simp; omega))
  have HR5 := Lib.hid (HR.out.grown hg5 (by simp))
  have HL5 : Hid (Below w.heap.size w V5) := Lib.hid (by rw [hV5]; exact store_below (by omega) [.slice fa1 fn fc1] 16 _ _ HL.out)
  clear hV5 HO HA HR HL
  have HL := HL5
  clear HL5
  refine (toIntS_any _ ra rn rc R (HT.out.lt.here HL.out) HS.out.2.2.2.2).mono ?_
  rintro e w5 ⟨⟨ra1, rc1, rfl, ho5⟩, hb5⟩
  rw [show R.length = rn from HT.out.lt.hlen] at ho5 ⊢
  have HA := Lib.hid (HA5.out.below hb5)
  have HR := Lib.hid (HR5.out.below hb5)
  have HO := Lib.hid (HO5.out.below hb5)
  have HB5 := Lib.hid hb5
  have HL0 := Lib.hid (low_after HL.out hb5)
  have HV5 := Lib.hid (show w.heap.size + 3 ≤ V5.heap.size by have := HO5.out.lt; omega)
  have HP2 := Lib.hid ((HP2.out.grown hg5 (by omega)).below hb5)
  have HP3 := Lib.hid ((HP3.out.grown hg5 (by omega)).below hb5)
  have HP4 := Lib.hid ((HP4.out.grown hg5 (by omega)).below hb5)
  have HP5 := Lib.hid (Fresh.mono (IIs.of_own ho5) HV5.out)
  clear hb5 ho5 HA5 HR5 HO5 HL
  have HL := HL0
  clear HL0
  clear hg5
  have c18 := HA.out.cell 18 _ rfl
  have c19 := HA.out.cell 19 _ rfl
  have c20 := HA.out.cell 20 _ rfl
  have d17 := HO.out.cell 17 _ rfl
  have f17 := HO.out.frozen 17
  have d18 := HO.out.cell 18 _ rfl
  have f18 := HO.out.frozen 18
  have d19 := HO.out.cell 19 _ rfl
  have f19 := HO.out.frozen 19
  have d20 := HO.out.cell 20 _ rfl
  have f20 := HO.out.frozen 20
  go_upto_region 13 with fail
  obtain ⟨V6, hV6⟩ : ∃ V, V = ((((w5.setCell ⟨w.heap.size + 1 + 1, 17, none⟩ (.slice ra1 rn rc1)).setCell ⟨w.heap.size + 1 + 1, 18, none⟩ (.int .i64 tk)).setCell ⟨w.heap.size + 1 + 1, 19, none⟩ (.int .i64 ac)).setCell ⟨w.heap.size + 1 + 1, 20, none⟩ (.int .i64 dr)) := ⟨_, rfl⟩
  rw [← hV6]
  have hfull : Box V6 (w.heap.size + 1 + 1) 33 [.int .i64 de, .int .i64 qu, .int .i64 wi, .int .i64 ti, .int .i64 qa, .int .i64 bu, .int .i64 le, .int .i64 pb, .int .i64 pc, .int .i64 pj, .int .i64 pt, .int .i64 nw, .int .i64 la, .slice ea1 en ec1, .slice ka1 kn kc1, .int .i64 tu, .slice fa1 fn fc1, .slice ra1 rn rc1, .int .i64 tk, .int .i64 ac, .int .i64 dr] := by rw [hV6]; exact Box.store [.slice ra1 rn rc1, .int .i64 tk, .int .i64 ac, .int .i64 dr] 17 _ _ HO.out
  have hg6 : w5.grownBy V6 (some (w.heap.size + 1 + 1)) := by rw [hV6]; exact store_grown [.slice ra1 rn rc1, .int .i64 tk, .int .i64 ac, .int .i64 dr] 17 w5
  have hres : Box V6 (w.heap.size + 1) 33 [.int .i64 0, .int .i64 0, .int .i64 0, .int .i64 0, .int .i64 0, .int .i64 0, .int .i64 0, .int .i64 0, .int .i64 0, .int .i64 0, .int .i64 0, .int .i64 0, .int .i64 0, .slice none 0 0, .slice none 0 0, .int .i64 0, .slice none 0 0, .slice none 0 0, .int .i64 0, .int .i64 0, .int .i64 0] := HR.out.grown hg6 (by simp)
  have hl6 : Below w.heap.size w V6 := by rw [hV6]; exact store_below (by omega) [.slice ra1 rn rc1, .int .i64 tk, .int .i64 ac, .int .i64 dr] 17 _ _ HL.out
  clear hV6 c18 c19 c20 d17 f17 d18 f18 d19 f19 d20 f20
  have HG6 := Lib.hid hg6
  have HL6 := Lib.hid hl6
  clear hg6 hl6
  go_wp2_with (first | (refine wpList_load_box rfl _ 33 rfl rfl hfull _ Try.underlying33 sizeGate ?_) | (refine wpList_store_box rfl _ _ 33 rfl rfl [.int .i64 de, .int .i64 qu, .int .i64 wi, .int .i64 ti, .int .i64 qa, .int .i64 bu, .int .i64 le, .int .i64 pb, .int .i64 pc, .int .i64 pj, .int .i64 pt, .int .i64 nw, .int .i64 la, .slice ea1 en ec1, .slice ka1 kn kc1, .int .i64 tu, .slice fa1 fn fc1, .slice ra1 rn rc1, .int .i64 tk, .int .i64 ac, .int .i64 dr] rfl hres sizeGate rfl rfl ?_; intro V7 hfin hg7 hl7) | fail)
  have HG7 := Lib.hid hg7
  have HL7 := Lib.hid (hl7 w.heap.size w (by omega) HL6.out)
  refine bodyPost_ret (v := .agg #[.int .i64 de, .int .i64 qu, .int .i64 wi, .int .i64 ti, .int .i64 qa, .int .i64 bu, .int .i64 le, .int .i64 pb, .int .i64 pc, .int .i64 pj, .int .i64 pt, .int .i64 nw, .int .i64 la, .slice ea1 en ec1, .slice ka1 kn kc1, .int .i64 tu, .slice fa1 fn fc1, .slice ra1 rn rc1, .int .i64 tk, .int .i64 ac, .int .i64 dr]) (results_box _ Try.results23 rfl hfin _ Try.underlying33 sizeGate) rfl ⟨⟨ea1, ec1, ka1, kc1, fa1, fc1, ra1, rc1, rfl, ?_⟩, HL7.out⟩
  refine Fresh.mono (N := w.heap.size + 3) ?_ (by omega)
  have f2 := (HP2.out.grown HG6.out (by omega)).grown HG7.out (by omega)
  have f3 := (HP3.out.grown HG6.out (by omega)).grown HG7.out (by omega)
  have f4 := (HP4.out.grown HG6.out (by omega)).grown HG7.out (by omega)
  have f5 := (HP5.out.grown HG6.out (by omega)).grown HG7.out (by omega)
  exact fun w' hs hh => ⟨f2 w' hs hh, f3 w' hs hh, f4 w' hs hh, f5 w' hs hh, HT.out.fle, HT.out.rle⟩
end Go.Proofs.Ytecfomaapomncaa.Gat
