/-
  What the law FnNew wants: the draw of its config, ReadyOf of a gate with no message, and that a new gate is right.
-/
import Derived.Test.YtecfomaapomncaaGtDr
import Derived.Test.YtecfomaapomncaaGtNw
import Derived.Test.YtecfomaapomncaaGtGo
namespace Go.Proofs.Ytecfomaapomncaa.Gat
open Go.RowKit Go.Proofs.Ytecfomaapomncaa.Kit Go.Proofs.Ytecfomaapomncaa.Draw
open Lnk (bOne bAfter low_after low_alloc LOk)
set_option linter.unusedVariables false
set_option linter.unusedSimpArgs false

set_option maxRecDepth 100000 in
set_option maxHeartbeats 4000000 in
theorem drawNew_draw (w : World) (B : Nat) (a0 : Option Addr) (len0 cap0 : Nat) (hcode : CodeAt B w a0 len0 cap0) (hB : B ≤ w.heap.size) :
    Calls Try.prog 10 #[.slice a0 len0 cap0] w fun e w' => CfgEnd CfgW e ∧ Below w.heap.size w w' := by
  obtain ⟨W0, hW0⟩ : ∃ W, W = w.alloc (.cells #[.int .i64 0, .int .i64 0, .int .i64 0, .int .i64 0, .int .i64 0, .int .i64 0, .int .i64 0, .int .i64 0, .int .i64 0, .int .i64 0, .int .i64 0] 27) := ⟨_, rfl⟩
  have hb0 := bOne w (.cells #[.int .i64 0, .int .i64 0, .int .i64 0, .int .i64 0, .int .i64 0, .int .i64 0, .int .i64 0, .int .i64 0, .int .i64 0, .int .i64 0, .int .i64 0] 27)
  rw [← hW0] at hb0
  have HC := Lib.hid (hcode.below (hb0.mono hB))
  have HL0 := Lib.hid hb0
  have HR0 := Lib.hid (show Box W0 w.heap.size 27 [.int .i64 0, .int .i64 0, .int .i64 0, .int .i64 0, .int .i64 0, .int .i64 0, .int .i64 0, .int .i64 0, .int .i64 0, .int .i64 0, .int .i64 0] by rw [hW0]; exact Box.new w [.int .i64 0, .int .i64 0, .int .i64 0, .int .i64 0, .int .i64 0, .int .i64 0, .int .i64 0, .int .i64 0, .int .i64 0, .int .i64 0, .int .i64 0] 27)
  have HBB := Lib.hid (Nat.le_trans hB hb0.size)
  have HS0 := Lib.hid (show W0.heap.size = w.heap.size + 1 by rw [hW0]; simp)
  have HWE := Lib.hid hW0
  clear hW0 hcode hb0 hB
  go_enter Try.func10, Try.ntmps10
  go_upto_region 1 with fail
  rw [← HWE.out]
  clear HWE
  go_wp2_with fail
  refine (new_draw _ B a0 len0 cap0 HC.out HBB.out).mono ?_
  rintro e w1 ⟨rfl, hd1, hb1, hs1⟩
  have HR1 := Lib.hid (HR0.out.below hb1)
  have HL1 := Lib.hid hb1
  have HS1 := Lib.hid hs1
  clear hb1 hs1 HR0
  go_wp2_with fail
  refine (cfgOdd_draw _ W0.heap.size B a0 len0 cap0 hd1 (Nat.le_trans HBB.out HL1.out.size)).mono ?_
  rintro e w2 ⟨⟨de, qu, wi, ti, qa, bu, le, pb, pc, pj, pt, hm, rfl⟩, hw⟩
  have HM := Lib.hid hm
  have HR2 := Lib.hid (HR1.out.grown hw.grown (by have := HS0.out; simp; omega))
  have hlow : Below W0.heap.size W0 w2 := HL1.out.grown hw.grown HL1.out.size (fun k e => by injection e with e; omega)
  have HL2 := Lib.hid (HL0.out.trans (hlow.mono HL0.out.size))
  clear hm hw hlow hd1 HR1
  go_wp2_with (first | (refine wpList_store_box rfl _ _ 27 rfl rfl [.int .i64 de, .int .i64 qu, .int .i64 wi, .int .i64 ti, .int .i64 qa, .int .i64 bu, .int .i64 le, .int .i64 pb, .int .i64 pc, .int .i64 pj, .int .i64 pt] rfl HR2.out sizeCfg rfl rfl ?_; intro V hXb hgV hlV) | fail)
  exact bodyPost_ret (v := .agg #[.int .i64 de, .int .i64 qu, .int .i64 wi, .int .i64 ti, .int .i64 qa, .int .i64 bu, .int .i64 le, .int .i64 pb, .int .i64 pc, .int .i64 pj, .int .i64 pt]) (results_box _ Try.results10 rfl hXb _ Try.underlying27 sizeCfg) rfl ⟨⟨_, _, _, _, _, _, _, _, _, _, _, HM.out, rfl⟩, hlV w.heap.size w (Nat.le_refl _) HL2.out⟩

set_option maxRecDepth 100000 in
set_option maxHeartbeats 4000000 in
theorem implReady_nil (w : World) (de qu wi ti qa bu le pb pc pj pt nw la : Int) (ea : Option Addr) (ec : Nat) (ka : Option Addr) (kn kc : Nat) (tu : Int) (fa : Option Addr) (fn fc : Nat) (ra : Option Addr) (rn rc : Nat) (tk ac dr : Int) (d : Int) :
    Calls Try.prog 18 #[.agg #[.int .i64 de, .int .i64 qu, .int .i64 wi, .int .i64 ti, .int .i64 qa, .int .i64 bu, .int .i64 le, .int .i64 pb, .int .i64 pc, .int .i64 pj, .int .i64 pt, .int .i64 nw, .int .i64 la, .slice ea 0 ec, .slice ka kn kc, .int .i64 tu, .slice fa fn fc, .slice ra rn rc, .int .i64 tk, .int .i64 ac, .int .i64 dr], .int .i64 d] w fun e w' => e = .returned (.slice none 0 0) ∧ Below w.heap.size w w' := by
  obtain ⟨W0, hW0⟩ : ∃ W, W = w.alloc (.cells #[.int .i64 de, .int .i64 qu, .int .i64 wi, .int .i64 ti, .int .i64 qa, .int .i64 bu, .int .i64 le, .int .i64 pb, .int .i64 pc, .int .i64 pj, .int .i64 pt, .int .i64 nw, .int .i64 la, .slice ea 0 ec, .slice ka kn kc, .int .i64 tu, .slice fa fn fc, .slice ra rn rc, .int .i64 tk, .int .i64 ac, .int .i64 dr] 33) := ⟨_, rfl⟩
  have HA : Hid (Box W0 w.heap.size 33 [.int .i64 de, .int .i64 qu, .int .i64 wi, .int .i64 ti, .int .i64 qa, .int .i64 bu, .int .i64 le, .int .i64 pb, .int .i64 pc, .int .i64 pj, .int .i64 pt, .int .i64 nw, .int .i64 la, .slice ea 0 ec, .slice ka kn kc, .int .i64 tu, .slice fa fn fc, .slice ra rn rc, .int .i64 tk, .int .i64 ac, .int .i64 dr]) := Lib.hid (by rw [hW0]; exact Box.new w [.int .i64 de, .int .i64 qu, .int .i64 wi, .int .i64 ti, .int .i64 qa, .int .i64 bu, .int .i64 le, .int .i64 pb, .int .i64 pc, .int .i64 pj, .int .i64 pt, .int .i64 nw, .int .i64 la, .slice ea 0 ec, .slice ka kn kc, .int .i64 tu, .slice fa fn fc, .slice ra rn rc, .int .i64 tk, .int .i64 ac, .int .i64 dr] 33)
  have HL : Hid (Below w.heap.size w W0) := Lib.hid (by rw [hW0]; exact bOne _ _)
  have HWE := Lib.hid hW0
  clear hW0
  have c13 := HA.out.cell 13 _ rfl
  go_enter Try.func18, Try.ntmps18
  go_wp2_with fail
  rw [← HWE.out]
  clear c13
  go_loopw [5, 11] (fun s i wr => s = .slice none 0 0 ∧ i = .int .i64 0 ∧ wr = W0) (fun _ _ _ => 0)
  case atStart => exact ⟨rfl, rfl, rfl⟩
  case round =>
    obtain ⟨rfl, rfl, rfl⟩ := hrel
    go_wp2_with fail
    go_ret
    exact ⟨rfl, HL.out⟩

/-- a new gate of program and specification, whatever the config -/
theorem new_both (de qu wi ti qa bu le pb pc pj pt : Int) : ∃ (n : Nat) (y0 y1 y2 y3 y4 y5 y6 y7 y8 y9 y10 : Int), n ≤ 1000 ∧
    (∀ w, Calls Try.prog 11 #[.agg #[.int .i64 de, .int .i64 qu, .int .i64 wi, .int .i64 ti, .int .i64 qa, .int .i64 bu, .int .i64 le, .int .i64 pb, .int .i64 pc, .int .i64 pj, .int .i64 pt]] w fun e w' => IEnd n y0 y1 y2 y3 y4 y5 y6 y7 y8 y9 y10 w w' e) ∧
    (∀ w, Calls Try.prog 13 #[.agg #[.int .i64 de, .int .i64 qu, .int .i64 wi, .int .i64 ti, .int .i64 qa, .int .i64 bu, .int .i64 le, .int .i64 pb, .int .i64 pc, .int .i64 pj, .int .i64 pt]] w fun e w' => SEnd n y0 y1 y2 y3 y4 y5 y6 y7 y8 y9 y10 w w' e) ∧
    (cfgB de qu wi ti qa bu le pb pc pj pt = true → de = n ∧ CfgOk y0 y1 y2 y3 y4 y5 y6 y7 y8 y9 y10 ∧ y0 = n) ∧ (cfgB de qu wi ti qa bu le pb pc pj pt = false → y0 = 0) := by
  cases h : cfgB de qu wi ti qa bu le pb pc pj pt with
  | false =>
    refine ⟨0, 0, 0, 0, 0, 0, 0, 0, 0, 0, 0, 0, by omega, fun w => ?_, fun w => ?_, fun h => by simp at h, fun _ => rfl⟩
    · exact (implNew_no w de qu wi ti qa bu le pb pc pj pt h).mono fun e w' ⟨he, hb⟩ => ⟨⟨none, 0, none, 0, he, ROwn.nil _ _ _, Lnk.IOwn.nil _ _⟩, hb⟩
    · exact (specNew_no w de qu wi ti qa bu le pb pc pj pt h).mono fun e w' ⟨he, hb⟩ => ⟨⟨none, 0, none, 0, he, LIs.nil _ _ _, iis_nil _ _ _⟩, hb⟩
  | true =>
    have hok : CfgOk de qu wi ti qa bu le pb pc pj pt := of_decide_eq_true h
    have hde : 1 ≤ de ∧ de ≤ 6 := by
      have h2 := hok
      unfold CfgOk at h2
      omega
    obtain ⟨n, rfl⟩ : ∃ n : Nat, de = (n : Int) := ⟨de.toNat, by omega⟩
    refine ⟨n, (n : Int), qu, wi, ti, qa, bu, le, pb, pc, pj, pt, by omega, fun w => ?_, fun w => ?_, fun _ => ⟨rfl, hok, rfl⟩, fun h => by simp at h⟩
    · exact (implNew_yes w n qu wi ti qa bu le pb pc pj pt (by omega) h).mono fun e w' ⟨⟨gk, gf, he, hk, hf⟩, hb⟩ => ⟨⟨some ⟨gk, 0, none⟩, n, some ⟨gf, 0, none⟩, n, he, hk, hf⟩, hb⟩
    · exact specNew_yes w n qu wi ti qa bu le pb pc pj pt (by omega) h
theorem met_nil : MetP [] [] := ⟨fun j h => by simp at h, rfl⟩
theorem gate_zero {y0 y1 y2 y3 y4 y5 y6 y7 y8 y9 y10 : Int} {n : Nat} (h : y0 = 0) : ¬ gateP y0 y1 y2 y3 y4 y5 y6 y7 y8 y9 y10 0 0 0 n 0 n 0 0 0 0 [] (List.replicate n lk0) (List.replicate n 0) [] := fun hg => by
  have := hg.1
  unfold CfgOk at this
  omega
theorem gate_new {y0 y1 y2 y3 y4 y5 y6 y7 y8 y9 y10 : Int} {n : Nat} (h : CfgOk y0 y1 y2 y3 y4 y5 y6 y7 y8 y9 y10) (hn : y0 = n) : gateP y0 y1 y2 y3 y4 y5 y6 y7 y8 y9 y10 0 0 0 n 0 n 0 0 0 0 [] (List.replicate n lk0) (List.replicate n 0) [] := by
  have h2 := h
  unfold CfgOk at h2
  refine ⟨h, by omega, by omega, ⟨by omega, fun k hk => by simp at hk⟩, fun k hk => ?_, ⟨by omega, fun k hk => ?_⟩, ⟨by omega, by omega, by omega, fun x hx => ?_⟩, ⟨by simp; omega, met_nil⟩, ⟨by omega, by omega, by omega, by simp⟩⟩
  · show ((0 : Nat) : Int) ≤ y1
    omega
  · rw [List.getElem_replicate]
    exact ⟨⟨by decide, by decide, by decide, by decide, by decide, fun h => by simp [lk0] at h, List.Pairwise.nil, fun t ht => by simp [lk0] at ht⟩, by show ((0 : Nat) : Int) ≤ y2; omega, met_nil⟩
  · have := (List.mem_replicate.1 hx).2
    omega

end Go.Proofs.Ytecfomaapomncaa.Gat
