/-
  The walk of the law FnExactGateOk.
-/
import Derived.Test.YtecfomaapomncaaGtPu
import Derived.Test.YtecfomaapomncaaGtQ
namespace Go.Proofs.Ytecfomaapomncaa.Gat
open Go.RowKit
open Lnk (bOne bAfter IOwn IIs below_keep below_drew' bcell low_after low_alloc)
set_option linter.unusedVariables false
theorem sizeLawsG : (Try.prog.info? 51).map (·.size) = some 21 := by kernel_rfl

set_option maxRecDepth 100000 in
set_option maxHeartbeats 4000000 in
theorem exactGateOk_walk (w : World) (de qu wi ti qa bu le pb pc pj pt nw la : Int) (ea : Option Addr) (en ec : Nat) (ka : Option Addr) (kn kc : Nat) (tu : Int) (fa : Option Addr) (fn fc : Nat) (ra : Option Addr) (rn rc : Nat) (tk ac dr : Int) (E : List Ev) (K : List Lk) (F R : List Int) (h : GIs w.heap.size w ea en ka kn fa fn ra rn E K F R) (hE : ∀ e ∈ E, (Lit.int .i64 e.i).wf = true) (hR : ∀ x ∈ R, (Lit.int .i64 x).wf = true) :
    Calls Try.prog 5 #[.agg #[.int .i64 de, .int .i64 qu, .int .i64 wi, .int .i64 ti, .int .i64 qa, .int .i64 bu, .int .i64 le, .int .i64 pb, .int .i64 pc, .int .i64 pj, .int .i64 pt, .int .i64 nw, .int .i64 la, .slice ea en ec, .slice ka kn kc, .int .i64 tu, .slice fa fn fc, .slice ra rn rc, .int .i64 tk, .int .i64 ac, .int .i64 dr]] w fun e w' => e = .returned (.bool true) ∧ Below w.heap.size w w' := by
  obtain ⟨W0, hW0⟩ : ∃ W, W = w.alloc (.cells #[.int .i64 de, .int .i64 qu, .int .i64 wi, .int .i64 ti, .int .i64 qa, .int .i64 bu, .int .i64 le, .int .i64 pb, .int .i64 pc, .int .i64 pj, .int .i64 pt, .int .i64 nw, .int .i64 la, .slice ea en ec, .slice ka kn kc, .int .i64 tu, .slice fa fn fc, .slice ra rn rc, .int .i64 tk, .int .i64 ac, .int .i64 dr] 51) := ⟨_, rfl⟩
  have HA : Hid (Box W0 w.heap.size 51 [.int .i64 de, .int .i64 qu, .int .i64 wi, .int .i64 ti, .int .i64 qa, .int .i64 bu, .int .i64 le, .int .i64 pb, .int .i64 pc, .int .i64 pj, .int .i64 pt, .int .i64 nw, .int .i64 la, .slice ea en ec, .slice ka kn kc, .int .i64 tu, .slice fa fn fc, .slice ra rn rc, .int .i64 tk, .int .i64 ac, .int .i64 dr]) := Lib.hid (by rw [hW0]; exact Box.new w [.int .i64 de, .int .i64 qu, .int .i64 wi, .int .i64 ti, .int .i64 qa, .int .i64 bu, .int .i64 le, .int .i64 pb, .int .i64 pc, .int .i64 pj, .int .i64 pt, .int .i64 nw, .int .i64 la, .slice ea en ec, .slice ka kn kc, .int .i64 tu, .slice fa fn fc, .slice ra rn rc, .int .i64 tk, .int .i64 ac, .int .i64 dr] 51)
  have HL : Hid (Below w.heap.size w W0) := Lib.hid (by rw [hW0]; exact bOne _ _)
  have HT := Lib.hid (h.here HL.out)
  have HWE := Lib.hid hW0
  clear h hW0
  go_enter Try.func5, Try.ntmps5
  go_upto_region 2 with fail
  rw [← HWE.out]
  go_wp2_with (first | (refine wpList_load_box rfl _ 51 rfl rfl HA.out _ Try.underlying51 sizeLawsG ?_) | fail)
  refine (szGate_any _ de qu wi ti qa bu le pb pc pj pt nw la ea en ec ka kn kc tu fa fn fc ra rn rc tk ac dr E K F R HT.out).mono ?_
  rintro e w1 ⟨⟨z, rfl, hz⟩, hb⟩
  replace HA := Lib.hid (HA.out.below hb)
  replace HL := Lib.hid (low_after HL.out hb)
  replace HT := Lib.hid (HT.out.here hb)
  clear hb HWE
  rcases hz with rfl | ⟨hz0, hzx, hsm⟩
  · go_wp2_with fail
    go_ret
    exact ⟨rfl, HL.out⟩
  have hzn : ¬ z < 0 := by omega
  have HS := Lib.hid hsm
  clear hzx hsm
  go_wp2_with (first | (refine wpList_load_box rfl _ 51 rfl rfl HA.out _ Try.underlying51 sizeLawsG ?_) | fail)
  refine (toGate_any _ de qu wi ti qa bu le pb pc pj pt nw la ea en ec ka kn kc tu fa fn fc ra rn rc tk ac dr E K F R HT.out HS.out).mono ?_
  rintro e w2 ⟨⟨ea0, ec0, ka0, kc0, fa0, fc0, ra0, rc0, rfl, ho⟩, hb⟩
  replace HA := Lib.hid (HA.out.below hb)
  replace HL := Lib.hid (low_after HL.out hb)
  replace HT := Lib.hid (HT.out.here hb)
  have HG := Lib.hid ho.out
  clear hb ho
  go_wp2_with fail
  refine (specGateOk_any _ de qu wi ti qa bu le pb pc pj pt nw la ea0 en ec0 ka0 kn kc0 tu fa0 fn fc0 ra0 rn rc0 tk ac dr E K F R HG.out).mono ?_
  rintro e w3 ⟨⟨v, rfl, hv⟩, hb⟩
  replace HA := Lib.hid (HA.out.below hb)
  replace HL := Lib.hid (low_after HL.out hb)
  replace HT := Lib.hid (HT.out.here hb)
  clear hb HG
  have HV := Lib.hid hv
  clear hv
  go_wp2_with (first | (refine wpList_load_box rfl _ 51 rfl rfl HA.out _ Try.underlying51 sizeLawsG ?_) | fail)
  refine (toGate_any _ de qu wi ti qa bu le pb pc pj pt nw la ea en ec ka kn kc tu fa fn fc ra rn rc tk ac dr E K F R HT.out HS.out).mono ?_
  rintro e w4 ⟨⟨ea1, ec1, ka1, kc1, fa1, fc1, ra1, rc1, rfl, ho⟩, hb⟩
  replace HA := Lib.hid (HA.out.below hb)
  replace HL := Lib.hid (low_after HL.out hb)
  replace HT := Lib.hid (HT.out.here hb)
  have HG := Lib.hid ho.out
  clear hb ho
  go_wp2_with (first | (refine wpList_store_box rfl _ _ 33 rfl rfl [.int .i64 de, .int .i64 qu, .int .i64 wi, .int .i64 ti, .int .i64 qa, .int .i64 bu, .int .i64 le, .int .i64 pb, .int .i64 pc, .int .i64 pj, .int .i64 pt, .int .i64 nw, .int .i64 la, .slice ea1 en ec1, .slice ka1 kn kc1, .int .i64 tu, .slice fa1 fn fc1, .slice ra1 rn rc1, .int .i64 tk, .int .i64 ac, .int .i64 dr] rfl (Box.new _ [.int .i64 0, .int .i64 0, .int .i64 0, .int .i64 0, .int .i64 0, .int .i64 0, .int .i64 0, .int .i64 0, .int .i64 0, .int .i64 0, .int .i64 0, .int .i64 0, .int .i64 0, .slice none 0 0, .slice none 0 0, .int .i64 0, .slice none 0 0, .slice none 0 0, .int .i64 0, .int .i64 0, .int .i64 0] 33) sizeGate rfl rfl ?_; intro V hXb hgV hlV; have HX := Lib.hid hXb; have HBV := Lib.hid (hlV w4.heap.size w4 (Nat.le_refl _) (bOne w4 _)); clear hXb hgV hlV) | (refine wpList_load_box rfl _ 33 rfl rfl HX.out _ Try.underlying33 sizeGate ?_) | fail)
  replace HA := Lib.hid (HA.out.below HBV.out)
  replace HL := Lib.hid (low_after HL.out HBV.out)
  replace HT := Lib.hid (HT.out.here HBV.out)
  replace HG := Lib.hid (HG.out.here HBV.out)
  clear HBV
  refine (implGateOk_any _ de qu wi ti qa bu le pb pc pj pt nw la ea1 en ec1 ka1 kn kc1 tu fa1 fn fc1 ra1 rn rc1 tk ac dr E K F R hE hR HS.out.1 HS.out.2.2.2.2 HG.out).mono ?_
  rintro e w5 ⟨⟨y, rfl, hy⟩, hb⟩
  replace HA := Lib.hid (HA.out.below hb)
  replace HX := Lib.hid (HX.out.below hb)
  replace HL := Lib.hid (low_after HL.out hb)
  replace HT := Lib.hid (HT.out.here hb)
  replace HG := Lib.hid (HG.out.here hb)
  clear hb
  obtain rfl : y = v := Bool.eq_iff_iff.2 (hy.trans ((gate_iff HT.out.ev.row.hlen HT.out.lk.hlen HT.out.lf.hlen HT.out.lt.hlen).trans HV.out.symm))
  clear HV hy
  obtain ⟨kx, hkx⟩ : ∃ k, k = w4.heap.size := ⟨_, rfl⟩
  rw [← hkx] at HX ⊢
  clear hkx
  go_upto_region 10 with fail
  have HQ := Lib.hid (show Below w5.heap.size w5 w5.drew from below_drew' (Below.refl _ _))
  refine wp_region_held_drew (S := fun w' => Box w' w.heap.size 51 [.int .i64 de, .int .i64 qu, .int .i64 wi, .int .i64 ti, .int .i64 qa, .int .i64 bu, .int .i64 le, .int .i64 pb, .int .i64 pc, .int .i64 pj, .int .i64 pt, .int .i64 nw, .int .i64 la, .slice ea en ec, .slice ka kn kc, .int .i64 tu, .slice fa fn fc, .slice ra rn rc, .int .i64 tk, .int .i64 ac, .int .i64 dr] ∧ Box w' kx 33 [.int .i64 de, .int .i64 qu, .int .i64 wi, .int .i64 ti, .int .i64 qa, .int .i64 bu, .int .i64 le, .int .i64 pb, .int .i64 pc, .int .i64 pj, .int .i64 pt, .int .i64 nw, .int .i64 la, .slice ea1 en ec1, .slice ka1 kn kc1, .int .i64 tu, .slice fa1 fn fc1, .slice ra1 rn rc1, .int .i64 tk, .int .i64 ac, .int .i64 dr]) (by kernel_rfl) ⟨HA.out.below HQ.out, HX.out.below HQ.out⟩ (fun hHeld => ?_)
  refine wpAnyH_take (i := 0) (oi := { dst := some _, op := _, type := _, pos := _, after := _, guard := _ }) (v := ?_) rfl (by kernel_rfl) (by kernel_rfl) (by kernel_rfl) (fun _ _ _ h => h) ?_ (by with_reducible assumption) ?_
  rotate_left 1
  focus (refine Or.inl ⟨by rfl, ?_⟩; intro wq hSw; refine exec_load_box ?_ 33 ?_ ?_ hSw.2 _ Try.underlying33 sizeGate; rotate_left 1; rfl; rfl)
  try simp only [Act.put, List.setIfInBounds_toArray, List.set_cons_zero, List.set_cons_succ]
  refine wpAnyH_take (i := 1) (oi := { dst := some _, op := _, type := _, pos := _, after := _, guard := _ }) (v := ?_) rfl (by kernel_rfl) (by kernel_rfl) (by kernel_rfl) (fun _ _ _ h => h) ?_ (by with_reducible assumption) ?_
  rotate_left 1
  focus (refine Or.inl ⟨by rfl, ?_⟩; intro wq hSw; refine exec_load_box ?_ 51 ?_ ?_ hSw.1 _ Try.underlying51 sizeLawsG; rotate_left 1; rfl; rfl)
  try simp only [Act.put, List.setIfInBounds_toArray, List.set_cons_zero, List.set_cons_succ]
  refine wpAnyH_ready (rs := [2]) (by kernel_rfl) (by simp) ?_
  refine AllReadyH.cons rfl (fun KA hKA => ?_) AllReadyH.nil
  go_simp
  refine (toGate_any _ de qu wi ti qa bu le pb pc pj pt nw la ea en ec ka kn kc tu fa fn fc ra rn rc tk ac dr E K F R (HT.out.here HQ.out) HS.out).mono ?_
  rintro e w6 ⟨⟨ea2, ec2, ka2, kc2, fa2, fc2, ra2, rc2, rfl, ho⟩, hb⟩
  have HBa := Lib.hid (And.intro (hHeld.1.below hb) (hHeld.2.below hb))
  have HG2 := Lib.hid ho.out
  replace HG := Lib.hid ((HG.out.here HQ.out).here hb)
  replace HQ := Lib.hid (low_after HQ.out hb)
  clear hb ho hHeld
  dsimp only
  refine hKA.out _ _ (HBa.out) (fun hHeld => ?_)
  clear hKA
  try simp only [Act.put, List.setIfInBounds_toArray, List.set_cons_zero, List.set_cons_succ]
  refine wpAnyH_ready (rs := [3]) (by kernel_rfl) (by simp) ?_
  refine AllReadyH.cons rfl (fun KB hKB => ?_) AllReadyH.nil
  go_simp
  refine (eqGate_same _ de qu wi ti qa bu le pb pc pj pt nw la ea1 en ec1 ka1 kn kc1 tu fa1 fn fc1 ra1 rn rc1 tk ac dr ea2 ec2 ka2 kc2 fa2 fc2 ra2 rc2 E K F R HG.out HG2.out (by have := HS.out.2.2.2.1; omega) (by have := HS.out.2.2.2.2; omega)).mono ?_
  rintro e w7 ⟨rfl, hb⟩
  have HBb := Lib.hid (And.intro (HBa.out.1.below hb) (HBa.out.2.below hb))
  replace HQ := Lib.hid (low_after HQ.out hb)
  clear hb hHeld
  dsimp only
  refine hKB.out _ _ (HBb.out) (fun hHeld => ?_)
  clear hKB
  try simp only [Act.put, List.setIfInBounds_toArray, List.set_cons_zero, List.set_cons_succ]
  refine wpAnyH_take (i := 4) (oi := { dst := some _, op := _, type := _, pos := _, after := _, guard := _ }) (v := ?_) rfl (by kernel_rfl) (by kernel_rfl) (by kernel_rfl) (fun _ _ _ h => h) ?_ (by with_reducible assumption) ?_
  rotate_left 1
  focus (refine Or.inl ⟨by rfl, ?_⟩; intro wq hSw; go_simp; try with_reducible rfl)
  try simp only [Act.put, List.setIfInBounds_toArray, List.set_cons_zero, List.set_cons_succ]
  refine wpAnyH_done (by kernel_rfl) ?_ _
  go_wp2_with fail
  go_ret
  exact ⟨rfl, low_after HL.out HQ.out⟩
end Go.Proofs.Ytecfomaapomncaa.Gat
