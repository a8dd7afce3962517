/-
  A right gate: the walk of the program's GateOk.
-/
import Derived.Test.YtecfomaapomncaaGtLi
import Derived.Test.YtecfomaapomncaaGtSh
import Derived.Test.YtecfomaapomncaaGtD
namespace Go.Proofs.Ytecfomaapomncaa.Gat
open Go.RowKit
open Lnk (bOne bAfter IOwn IIs below_keep below_drew' low_after low_alloc)
set_option linter.unusedVariables false

section
variable {P : Program} {w : World} {ops : Array Oper} {rest : List Oper} {o : Oper} {a : Act} {Q : Exit → Act → World → Prop} {k : Nat} {T : TypeId} {l : List Value}
/-- a struct read whole, at an operation that a guard lets through -/
theorem wpList_loadg_box (hw : Region.wanted o (yielded ops a.tmps) = true) (p : Operand) (t : TypeId) (hop : o.op = .load t p) (hs : a.eval p = .pointer (some ⟨k, 0, none⟩)) (hb : Box w k T l) (fs : Array Field) (hu : P.underlying t = some (.struct fs)) (hi : (P.info? t).map (·.size) = some l.length)
    (h : wpList P ops Q rest (a.put o.dst (.agg l.toArray)) w) : wpList P ops Q (o :: rest) a w := by
  refine wpList_step fun K' hK' => ?_
  rw [if_pos hw]
  have hrun : (Instr.loadAt t (.pointer (some ⟨k, 0, none⟩))).run P w = .ok (.agg l.toArray) w := by
    simp only [Instr.loadAt, Instr.sureAddr, Sem.run_bind, Sem.run_pure, Result.andThen]
    exact run_loadVar_row w k T t l.toArray (0, 0) _ hb hu rfl (by simpa using hi)
  unfold Oper.wp
  simp only [execOp, hop, hs, Sem.run_bind, Sem.run_pure, hrun, Result.andThen_ok]
  exact hK' _ _ h
end
def gateP (de qu wi ti qa bu le pb pc pj pt nw la : Int) (en kn : Nat) (tu : Int) (fn rn : Nat) (tk ac dr : Int) (E : List Ev) (K : List Lk) (F R : List Int) : Prop :=
  CfgOk de qu wi ti qa bu le pb pc pj pt ∧ (0 ≤ nw ∧ nw ≤ 1000000000) ∧ (0 ≤ la ∧ la ≤ 9999) ∧ (en ≤ 60 ∧ evsP de la nw E) ∧ quP de qu E ∧ liP kn de wi E K ∧ shP de tu fn F ∧ leP rn le E R ∧ toP en tk ac dr

set_option maxRecDepth 100000 in
set_option maxHeartbeats 8000000 in
theorem implGateOk_any (w : World) (de qu wi ti qa bu le pb pc pj pt nw la : Int) (ea : Option Addr) (en ec : Nat) (ka : Option Addr) (kn kc : Nat) (tu : Int) (fa : Option Addr) (fn fc : Nat) (ra : Option Addr) (rn rc : Nat) (tk ac dr : Int) (E : List Ev) (K : List Lk) (F R : List Int) (hE : ∀ e ∈ E, (Lit.int .i64 e.i).wf = true) (hR : ∀ x ∈ R, (Lit.int .i64 x).wf = true) (hen : en ≤ 1048576) (hrn : rn ≤ 1048576) (h : GIs w.heap.size w ea en ka kn fa fn ra rn E K F R) :
    Calls Try.prog 16 #[.agg #[.int .i64 de, .int .i64 qu, .int .i64 wi, .int .i64 ti, .int .i64 qa, .int .i64 bu, .int .i64 le, .int .i64 pb, .int .i64 pc, .int .i64 pj, .int .i64 pt, .int .i64 nw, .int .i64 la, .slice ea en ec, .slice ka kn kc, .int .i64 tu, .slice fa fn fc, .slice ra rn rc, .int .i64 tk, .int .i64 ac, .int .i64 dr]] w fun e w' => BEnd w w' (gateP de qu wi ti qa bu le pb pc pj pt nw la en kn tu fn rn tk ac dr E K F R) e := by
  obtain ⟨W0, hW0⟩ : ∃ W, W = w.alloc (.cells #[.int .i64 de, .int .i64 qu, .int .i64 wi, .int .i64 ti, .int .i64 qa, .int .i64 bu, .int .i64 le, .int .i64 pb, .int .i64 pc, .int .i64 pj, .int .i64 pt, .int .i64 nw, .int .i64 la, .slice ea en ec, .slice ka kn kc, .int .i64 tu, .slice fa fn fc, .slice ra rn rc, .int .i64 tk, .int .i64 ac, .int .i64 dr] 33) := ⟨_, rfl⟩
  have HA : Hid (Box W0 w.heap.size 33 [.int .i64 de, .int .i64 qu, .int .i64 wi, .int .i64 ti, .int .i64 qa, .int .i64 bu, .int .i64 le, .int .i64 pb, .int .i64 pc, .int .i64 pj, .int .i64 pt, .int .i64 nw, .int .i64 la, .slice ea en ec, .slice ka kn kc, .int .i64 tu, .slice fa fn fc, .slice ra rn rc, .int .i64 tk, .int .i64 ac, .int .i64 dr]) := Lib.hid (by rw [hW0]; exact Box.new w [.int .i64 de, .int .i64 qu, .int .i64 wi, .int .i64 ti, .int .i64 qa, .int .i64 bu, .int .i64 le, .int .i64 pb, .int .i64 pc, .int .i64 pj, .int .i64 pt, .int .i64 nw, .int .i64 la, .slice ea en ec, .slice ka kn kc, .int .i64 tu, .slice fa fn fc, .slice ra rn rc, .int .i64 tk, .int .i64 ac, .int .i64 dr] 33)
  have HL : Hid (Below w.heap.size w W0) := Lib.hid (by rw [hW0]; exact bOne _ _)
  have HWE := Lib.hid hW0
  have HT := Lib.hid (show GIs W0.heap.size W0 ea en ka kn fa fn ra rn E K F R from by rw [hW0]; exact h.here (bOne _ _))
  have HEW := Lib.hid hE
  have HRW := Lib.hid hR
  have HEN := Lib.hid hen
  have HRN := Lib.hid hrn
  clear h hW0 hE hR hen hrn
  have c0 := HA.out.cell 0 _ rfl
  have c1 := HA.out.cell 1 _ rfl
  have c2 := HA.out.cell 2 _ rfl
  have c3 := HA.out.cell 3 _ rfl
  have c4 := HA.out.cell 4 _ rfl
  have c5 := HA.out.cell 5 _ rfl
  have c6 := HA.out.cell 6 _ rfl
  have c7 := HA.out.cell 7 _ rfl
  have c8 := HA.out.cell 8 _ rfl
  have c9 := HA.out.cell 9 _ rfl
  have c10 := HA.out.cell 10 _ rfl
  have c11 := HA.out.cell 11 _ rfl
  have c12 := HA.out.cell 12 _ rfl
  go_enter Try.func16, Try.ntmps16
  go_upto_region 1 with fail
  rw [← HWE.out]
  clear HWE
  go_wp2_with fail
  refine (implCfg_any de qu wi ti qa bu le pb pc pj pt _).mono ?_
  rintro e w1 ⟨rfl, hb⟩
  replace HA := Lib.hid (HA.out.below hb)
  replace HL := Lib.hid (low_after HL.out hb)
  replace HT := Lib.hid (HT.out.here hb)
  clear hb c0 c1 c2 c3 c4 c5 c6 c7 c8 c9 c10 c11 c12
  obtain ⟨x, hx⟩ : ∃ x, x = cfgB de qu wi ti qa bu le pb pc pj pt := ⟨_, rfl⟩
  rw [← hx]
  have HX := Lib.hid hx
  clear hx
  cases x with
  | false =>
    have HNP := Lib.hid (show ¬ (gateP de qu wi ti qa bu le pb pc pj pt nw la en kn tu fn rn tk ac dr E K F R) from fun h => by have := cfgB_yes h.1; rw [← HX.out] at this; cases this)
    go_wp2_with fail
    go_ret
    exact bend_no HNP.out HL.out
  | true =>
  have HCF := Lib.hid (show CfgOk de qu wi ti qa bu le pb pc pj pt from of_decide_eq_true HX.out.symm)
  clear HX
  have c11 := HA.out.cell 11 _ rfl
  have c12 := HA.out.cell 12 _ rfl

  by_cases ga : nw < 0
  · have HNP := Lib.hid (show ¬ (gateP de qu wi ti qa bu le pb pc pj pt nw la en kn tu fn rn tk ac dr E K F R) from fun h => by have := h.2.1; omega)
    go_wp2_with fail
    go_ret
    exact bend_no HNP.out HL.out

  by_cases gb : 1000000000 < nw
  · have HNP := Lib.hid (show ¬ (gateP de qu wi ti qa bu le pb pc pj pt nw la en kn tu fn rn tk ac dr E K F R) from fun h => by have := h.2.1; omega)
    go_wp2_with fail
    go_ret
    exact bend_no HNP.out HL.out

  by_cases gc : la < 0
  · have HNP := Lib.hid (show ¬ (gateP de qu wi ti qa bu le pb pc pj pt nw la en kn tu fn rn tk ac dr E K F R) from fun h => by have := h.2.2.1; omega)
    go_wp2_with fail
    go_ret
    exact bend_no HNP.out HL.out

  by_cases gd : 9999 < la
  · have HNP := Lib.hid (show ¬ (gateP de qu wi ti qa bu le pb pc pj pt nw la en kn tu fn rn tk ac dr E K F R) from fun h => by have := h.2.2.1; omega)
    go_wp2_with fail
    go_ret
    exact bend_no HNP.out HL.out

  have GNW := Lib.hid (show 0 ≤ nw ∧ nw ≤ 1000000000 by omega)
  have GLA := Lib.hid (show 0 ≤ la ∧ la ≤ 9999 by omega)
  go_wp2_with (first | (refine wpList_loadg_box (by rfl) _ 33 rfl rfl HA.out _ Try.underlying33 sizeGate ?_) | fail)
  refine (implEvents_any _ de qu wi ti qa bu le pb pc pj pt nw la ea en ec ka kn kc tu fa fn fc ra rn rc tk ac dr E K F R HT.out).mono ?_
  rintro e v0 ⟨⟨x, rfl, hx⟩, hb⟩
  replace HA := Lib.hid (HA.out.below hb)
  replace HL := Lib.hid (low_after HL.out hb)
  replace HT := Lib.hid (HT.out.here hb)
  have HX := Lib.hid hx
  clear hx hb c11 c12
  cases x with
  | false =>
    have HNP := Lib.hid (show ¬ (gateP de qu wi ti qa bu le pb pc pj pt nw la en kn tu fn rn tk ac dr E K F R) from fun h => by have := HX.out.2 h.2.2.2.1; cases this)
    go_wp2_with fail
    go_ret
    exact bend_no HNP.out HL.out
  | true =>
  have P0 := Lib.hid (HX.out.1 rfl)
  clear HX
  go_wp2_with (first | (refine wpList_loadg_box (by rfl) _ 33 rfl rfl HA.out _ Try.underlying33 sizeGate ?_) | fail)
  refine (implQueues_any _ de qu wi ti qa bu le pb pc pj pt nw la ea en ec ka kn kc tu fa fn fc ra rn rc tk ac dr E K F R (by have := HCF.out.2.1; omega) HT.out).mono ?_
  rintro e v1 ⟨⟨x, rfl, hx⟩, hb⟩
  replace HA := Lib.hid (HA.out.below hb)
  replace HL := Lib.hid (low_after HL.out hb)
  replace HT := Lib.hid (HT.out.here hb)
  have HX := Lib.hid hx
  clear hx hb
  cases x with
  | false =>
    have HNP := Lib.hid (show ¬ (gateP de qu wi ti qa bu le pb pc pj pt nw la en kn tu fn rn tk ac dr E K F R) from fun h => by have := HX.out.2 h.2.2.2.2.1; cases this)
    go_wp2_with fail
    go_ret
    exact bend_no HNP.out HL.out
  | true =>
  have P1 := Lib.hid (HX.out.1 rfl)
  clear HX
  go_wp2_with (first | (refine wpList_loadg_box (by rfl) _ 33 rfl rfl HA.out _ Try.underlying33 sizeGate ?_) | fail)
  refine (implLinks_any _ de qu wi ti qa bu le pb pc pj pt nw la ea en ec ka kn kc tu fa fn fc ra rn rc tk ac dr E K F R HEW.out HEN.out (by have := HCF.out.2.1; omega) HT.out).mono ?_
  rintro e v2 ⟨⟨x, rfl, hx⟩, hb⟩
  replace HA := Lib.hid (HA.out.below hb)
  replace HL := Lib.hid (low_after HL.out hb)
  replace HT := Lib.hid (HT.out.here hb)
  have HX := Lib.hid hx
  clear hx hb
  cases x with
  | false =>
    have HNP := Lib.hid (show ¬ (gateP de qu wi ti qa bu le pb pc pj pt nw la en kn tu fn rn tk ac dr E K F R) from fun h => by have := HX.out.2 h.2.2.2.2.2.1; cases this)
    go_wp2_with fail
    go_ret
    exact bend_no HNP.out HL.out
  | true =>
  have P2 := Lib.hid (HX.out.1 rfl)
  clear HX
  go_wp2_with (first | (refine wpList_loadg_box (by rfl) _ 33 rfl rfl HA.out _ Try.underlying33 sizeGate ?_) | fail)
  refine (implShares_any _ de qu wi ti qa bu le pb pc pj pt nw la ea en ec ka kn kc tu fa fn fc ra rn rc tk ac dr E K F R HT.out).mono ?_
  rintro e v3 ⟨⟨x, rfl, hx⟩, hb⟩
  replace HA := Lib.hid (HA.out.below hb)
  replace HL := Lib.hid (low_after HL.out hb)
  replace HT := Lib.hid (HT.out.here hb)
  have HX := Lib.hid hx
  clear hx hb
  cases x with
  | false =>
    have HNP := Lib.hid (show ¬ (gateP de qu wi ti qa bu le pb pc pj pt nw la en kn tu fn rn tk ac dr E K F R) from fun h => by have := HX.out.2 h.2.2.2.2.2.2.1; cases this)
    go_wp2_with fail
    go_ret
    exact bend_no HNP.out HL.out
  | true =>
  have P3 := Lib.hid (HX.out.1 rfl)
  clear HX
  go_wp2_with (first | (refine wpList_loadg_box (by rfl) _ 33 rfl rfl HA.out _ Try.underlying33 sizeGate ?_) | fail)
  refine (implLetters_any _ de qu wi ti qa bu le pb pc pj pt nw la ea en ec ka kn kc tu fa fn fc ra rn rc tk ac dr E K F R HEW.out HRW.out HEN.out HRN.out HT.out).mono ?_
  rintro e v4 ⟨⟨x, rfl, hx⟩, hb⟩
  replace HA := Lib.hid (HA.out.below hb)
  replace HL := Lib.hid (low_after HL.out hb)
  replace HT := Lib.hid (HT.out.here hb)
  have HX := Lib.hid hx
  clear hx hb
  cases x with
  | false =>
    have HNP := Lib.hid (show ¬ (gateP de qu wi ti qa bu le pb pc pj pt nw la en kn tu fn rn tk ac dr E K F R) from fun h => by have := HX.out.2 h.2.2.2.2.2.2.2.1; cases this)
    go_wp2_with fail
    go_ret
    exact bend_no HNP.out HL.out
  | true =>
  have P4 := Lib.hid (HX.out.1 rfl)
  clear HX
  go_wp2_with (first | (refine wpList_loadg_box (by rfl) _ 33 rfl rfl HA.out _ Try.underlying33 sizeGate ?_) | fail)
  refine (implTotals_any _ de qu wi ti qa bu le pb pc pj pt nw la ea en ec ka kn kc tu fa fn fc ra rn rc tk ac dr E K F R HEN.out).mono ?_
  rintro e v5 ⟨⟨x, rfl, hx⟩, hb⟩
  replace HA := Lib.hid (HA.out.below hb)
  replace HL := Lib.hid (low_after HL.out hb)
  replace HT := Lib.hid (HT.out.here hb)
  have HX := Lib.hid hx
  clear hx hb
  cases x with
  | false =>
    have HNP := Lib.hid (show ¬ (gateP de qu wi ti qa bu le pb pc pj pt nw la en kn tu fn rn tk ac dr E K F R) from fun h => by have := HX.out.2 h.2.2.2.2.2.2.2.2; cases this)
    go_wp2_with fail
    go_ret
    exact bend_no HNP.out HL.out
  | true =>
  have P5 := Lib.hid (HX.out.1 rfl)
  clear HX
  have HY := Lib.hid (show (gateP de qu wi ti qa bu le pb pc pj pt nw la en kn tu fn rn tk ac dr E K F R) from ⟨HCF.out, GNW.out, GLA.out, P0.out, P1.out, P2.out, P3.out, P4.out, P5.out⟩)
  go_wp2_with fail
  go_ret
  exact bend_yes HY.out HL.out

end Go.Proofs.Ytecfomaapomncaa.Gat
