/-
  The draws of a policy and of a config.
-/
import Derived.Test.YtecfomaapomncaaDrawN
import Derived.Test.YtecfomaapomncaaGtN
namespace Go.Proofs.Ytecfomaapomncaa.Gat
open Go.RowKit Go.Proofs.Ytecfomaapomncaa.Kit Go.Proofs.Ytecfomaapomncaa.Draw
open Lnk (bOne bAfter low_after low_alloc)
set_option linter.unusedVariables false
set_option linter.unusedSimpArgs false

theorem sizePolD : (Try.prog.info? 25).map (·.size) = some 4 := by kernel_rfl
section
variable {B cb len0 cap0 : Nat} {w w1 V : World} {a0 : Option Addr}
theorem went_box (h : Went B w w1 cb 91 a0 len0 cap0) {k : Nat} (hb : w.heap.size ≤ k) (hne : k ≠ cb) (hg : w1.grownBy V (some k)) (hlow : Below B w1 V) : Went B w V cb 91 a0 len0 cap0 :=
  ⟨h.dr.keep hlow (hg.block cb h.dr.cur.lt (fun e => hne (by injection e with e; exact e.symm))), ⟨hg.os.trans h.grown.os, hg.tape.trans h.grown.tape, hg.output.trans h.grown.output, Nat.le_trans h.grown.size hg.size, fun x hx hn => (hg.block x (Nat.lt_of_lt_of_le hx h.grown.size) (fun e => by injection e with e; omega)).trans (h.grown.block x hx hn)⟩⟩
end
def Bnd (z : Int) : Prop := -1 ≤ z ∧ z ≤ 1000001
def PolR (b c j t : Int) : Prop := (1 ≤ b ∧ b ≤ 5) ∧ (b ≤ c ∧ c ≤ b + 60) ∧ (0 ≤ j ∧ j ≤ 3) ∧ (5 ≤ t ∧ t ≤ 1000)
def PolW (b c j t : Int) : Prop := Bnd b ∧ Bnd c ∧ Bnd j ∧ Bnd t
theorem polRW {b c j t : Int} (h : PolR b c j t) : PolW b c j t := by unfold PolR at h; unfold PolW Bnd; omega
def CfgR (de qu wi ti qa bu le b c j t : Int) : Prop := (1 ≤ de ∧ de ≤ 3) ∧ (1 ≤ qu ∧ qu ≤ 4) ∧ (1 ≤ wi ∧ wi ≤ 3) ∧ (1 ≤ ti ∧ ti ≤ 5) ∧ (1 ≤ qa ∧ qa ≤ 6) ∧ (1 ≤ bu ∧ bu ≤ de) ∧ (1 ≤ le ∧ le ≤ 3) ∧ PolR b c j t
def CfgW (de qu wi ti qa bu le b c j t : Int) : Prop := (0 ≤ de ∧ de ≤ 7) ∧ Bnd qu ∧ Bnd wi ∧ Bnd ti ∧ Bnd qa ∧ Bnd bu ∧ Bnd le ∧ PolW b c j t
theorem cfgRW {de qu wi ti qa bu le b c j t : Int} (h : CfgR de qu wi ti qa bu le b c j t) : CfgW de qu wi ti qa bu le b c j t := by
  obtain ⟨h1, h2, h3, h4, h5, h6, h7, h8⟩ := h
  refine ⟨by omega, ?_, ?_, ?_, ?_, ?_, ?_, polRW h8⟩ <;> (unfold Bnd; omega)
/-- the endings of the draws -/
def PolEnd (P : Int → Int → Int → Int → Prop) (e : Ending) : Prop := ∃ b c j t : Int, P b c j t ∧ e = .returned (.agg #[.int .i64 b, .int .i64 c, .int .i64 j, .int .i64 t])
def CfgEnd (P : Int → Int → Int → Int → Int → Int → Int → Int → Int → Int → Int → Prop) (e : Ending) : Prop := ∃ de qu wi ti qa bu le b c j t : Int, P de qu wi ti qa bu le b c j t ∧ e = .returned (.agg #[.int .i64 de, .int .i64 qu, .int .i64 wi, .int .i64 ti, .int .i64 qa, .int .i64 bu, .int .i64 le, .int .i64 b, .int .i64 c, .int .i64 j, .int .i64 t])

theorem gnums_0 (W : World) : Nums (W.alloc (.cells #[.int .i64 1, .int .i64 2, .int .i64 3, .int .i64 5] 3)) W.heap.size 4 (fun z => 1 ≤ z ∧ z ≤ 5) := nums_new W [.int .i64 1, .int .i64 2, .int .i64 3, .int .i64 5] 3 _ (by
  intro v hv
  simp only [List.mem_cons, List.mem_nil_iff, or_false] at hv
  rcases hv with rfl | rfl | rfl | rfl <;> exact ⟨_, rfl, by first | (unfold Bnd; omega) | omega⟩)
theorem gnums_1 (W : World) : Nums (W.alloc (.cells #[.int .i64 0, .int .i64 3, .int .i64 10, .int .i64 60] 3)) W.heap.size 4 (fun z => 0 ≤ z ∧ z ≤ 60) := nums_new W [.int .i64 0, .int .i64 3, .int .i64 10, .int .i64 60] 3 _ (by
  intro v hv
  simp only [List.mem_cons, List.mem_nil_iff, or_false] at hv
  rcases hv with rfl | rfl | rfl | rfl <;> exact ⟨_, rfl, by first | (unfold Bnd; omega) | omega⟩)
theorem gnums_2 (W : World) : Nums (W.alloc (.cells #[.int .i64 0, .int .i64 1, .int .i64 3] 3)) W.heap.size 3 (fun z => 0 ≤ z ∧ z ≤ 3) := nums_new W [.int .i64 0, .int .i64 1, .int .i64 3] 3 _ (by
  intro v hv
  simp only [List.mem_cons, List.mem_nil_iff, or_false] at hv
  rcases hv with rfl | rfl | rfl <;> exact ⟨_, rfl, by first | (unfold Bnd; omega) | omega⟩)
theorem gnums_3 (W : World) : Nums (W.alloc (.cells #[.int .i64 5, .int .i64 20, .int .i64 60, .int .i64 1000] 3)) W.heap.size 4 (fun z => 5 ≤ z ∧ z ≤ 1000) := nums_new W [.int .i64 5, .int .i64 20, .int .i64 60, .int .i64 1000] 3 _ (by
  intro v hv
  simp only [List.mem_cons, List.mem_nil_iff, or_false] at hv
  rcases hv with rfl | rfl | rfl | rfl <;> exact ⟨_, rfl, by first | (unfold Bnd; omega) | omega⟩)
set_option maxRecDepth 100000 in
set_option maxHeartbeats 4000000 in
theorem polMake_draw (w : World) (cb B : Nat) (a0 : Option Addr) (len0 cap0 : Nat) (hd : Dr B w cb 91 a0 len0 cap0) (hB : B ≤ w.heap.size) :
    Calls Try.prog 94 #[.pointer (some ⟨cb, 0, none⟩)] w fun e w' => PolEnd PolR e ∧ Went B w w' cb 91 a0 len0 cap0 := by
  have hcb := hd.cur.lt
  have HBL := Lib.hid hB
  obtain ⟨w0, hw0⟩ : ∃ W, W = w.alloc (.cells #[.int .i64 0, .int .i64 0, .int .i64 0, .int .i64 0] 25) := ⟨_, rfl⟩
  have HW0 := Lib.hid (show Went B w w0 cb 91 a0 len0 cap0 by rw [hw0]; exact hd.refl.alloc _)
  have HR0 := Lib.hid (show Box w0 w.heap.size 25 [.int .i64 0, .int .i64 0, .int .i64 0, .int .i64 0] by rw [hw0]; exact Box.new w [.int .i64 0, .int .i64 0, .int .i64 0, .int .i64 0] 25)
  have HWE := Lib.hid hw0
  have HNR := Lib.hid (show w.heap.size ≠ cb by omega)
  clear hw0 hd hB hcb
  go_enter Try.func94, Try.ntmps94
  go_upto_region 1 with fail
  rw [← HWE.out]
  clear HWE
  go_wp2_with fail
  have HW0a := Lib.hid (HW0.out.alloc (.cells #[.int .i64 1, .int .i64 2, .int .i64 3, .int .i64 5] 3))
  have HR0a := Lib.hid (HR0.out.below (bOne w0 (.cells #[.int .i64 1, .int .i64 2, .int .i64 3, .int .i64 5] 3)))
  refine (pickInt_draw _ cb B a0 len0 cap0 HW0a.out.dr w0.heap.size 4 (fun z => 1 ≤ z ∧ z ≤ 5) (gnums_0 w0) (by have := HW0.out.dr.cur.lt; omega) (by simp) (by omega) (by omega)).mono ?_
  rintro e w1 ⟨⟨b, rfl, hb⟩, hw⟩
  have HW1 := Lib.hid (HW0a.out.trans hw)
  have HR1 := Lib.hid (HR0a.out.grown hw.grown (by simpa using HNR.out))
  clear hw HW0 HW0a HR0 HR0a
  go_wp2_with fail
  have HW1a := Lib.hid (HW1.out.alloc (.cells #[.int .i64 0, .int .i64 3, .int .i64 10, .int .i64 60] 3))
  have HR1a := Lib.hid (HR1.out.below (bOne w1 (.cells #[.int .i64 0, .int .i64 3, .int .i64 10, .int .i64 60] 3)))
  refine (pickInt_draw _ cb B a0 len0 cap0 HW1a.out.dr w1.heap.size 4 (fun z => 0 ≤ z ∧ z ≤ 60) (gnums_1 w1) (by have := HW1.out.dr.cur.lt; omega) (by simp) (by omega) (by omega)).mono ?_
  rintro e w2 ⟨⟨q, rfl, hq⟩, hw⟩
  have HW2 := Lib.hid (HW1a.out.trans hw)
  have HR2 := Lib.hid (HR1a.out.grown hw.grown (by simpa using HNR.out))
  clear hw HW1 HW1a HR1 HR1a
  have hwr : IntKind.i64.wrap (b + q) = b + q := IntWalk.i64_in _ (by omega)
  go_wp2_with fail
  have HW2a := Lib.hid (HW2.out.alloc (.cells #[.int .i64 0, .int .i64 1, .int .i64 3] 3))
  have HR2a := Lib.hid (HR2.out.below (bOne w2 (.cells #[.int .i64 0, .int .i64 1, .int .i64 3] 3)))
  refine (pickInt_draw _ cb B a0 len0 cap0 HW2a.out.dr w2.heap.size 3 (fun z => 0 ≤ z ∧ z ≤ 3) (gnums_2 w2) (by have := HW2.out.dr.cur.lt; omega) (by simp) (by omega) (by omega)).mono ?_
  rintro e w3 ⟨⟨j, rfl, hj⟩, hw⟩
  have HW3 := Lib.hid (HW2a.out.trans hw)
  have HR3 := Lib.hid (HR2a.out.grown hw.grown (by simpa using HNR.out))
  clear hw HW2 HW2a HR2 HR2a
  go_wp2_with fail
  have HW3a := Lib.hid (HW3.out.alloc (.cells #[.int .i64 5, .int .i64 20, .int .i64 60, .int .i64 1000] 3))
  have HR3a := Lib.hid (HR3.out.below (bOne w3 (.cells #[.int .i64 5, .int .i64 20, .int .i64 60, .int .i64 1000] 3)))
  refine (pickInt_draw _ cb B a0 len0 cap0 HW3a.out.dr w3.heap.size 4 (fun z => 5 ≤ z ∧ z ≤ 1000) (gnums_3 w3) (by have := HW3.out.dr.cur.lt; omega) (by simp) (by omega) (by omega)).mono ?_
  rintro e w4 ⟨⟨t, rfl, ht⟩, hw⟩
  have HW4 := Lib.hid (HW3a.out.trans hw)
  have HR4 := Lib.hid (HR3a.out.grown hw.grown (by simpa using HNR.out))
  clear hw HW3 HW3a HR3 HR3a
  go_wp2_with (first | (refine wpList_store_box rfl _ _ 25 rfl rfl [.int .i64 b, .int .i64 (b + q), .int .i64 j, .int .i64 t] rfl HR4.out sizePolD rfl rfl ?_; intro V hXb hgV hlV) | fail)
  exact bodyPost_ret (v := .agg #[.int .i64 b, .int .i64 (b + q), .int .i64 j, .int .i64 t]) (results_box _ Try.results94 rfl hXb _ Try.underlying25 sizePolD) rfl ⟨⟨_, _, _, _, by unfold PolR; omega, rfl⟩, went_box HW4.out (Nat.le_refl _) HNR.out hgV (hlV B _ HBL.out (Below.refl _ _))⟩


theorem gnums_4 (W : World) : Nums (W.alloc (.cells #[.int .i64 0, .int .i64 (-1), .int .i64 100001] 3)) W.heap.size 3 (Bnd) := nums_new W [.int .i64 0, .int .i64 (-1), .int .i64 100001] 3 _ (by
  intro v hv
  simp only [List.mem_cons, List.mem_nil_iff, or_false] at hv
  rcases hv with rfl | rfl | rfl <;> exact ⟨_, rfl, by first | (unfold Bnd; omega) | omega⟩)
theorem gnums_5 (W : World) : Nums (W.alloc (.cells #[.int .i64 0, .int .i64 100000, .int .i64 100001] 3)) W.heap.size 3 (Bnd) := nums_new W [.int .i64 0, .int .i64 100000, .int .i64 100001] 3 _ (by
  intro v hv
  simp only [List.mem_cons, List.mem_nil_iff, or_false] at hv
  rcases hv with rfl | rfl | rfl <;> exact ⟨_, rfl, by first | (unfold Bnd; omega) | omega⟩)
theorem gnums_6 (W : World) : Nums (W.alloc (.cells #[.int .i64 (-1), .int .i64 1000, .int .i64 1001] 3)) W.heap.size 3 (Bnd) := nums_new W [.int .i64 (-1), .int .i64 1000, .int .i64 1001] 3 _ (by
  intro v hv
  simp only [List.mem_cons, List.mem_nil_iff, or_false] at hv
  rcases hv with rfl | rfl | rfl <;> exact ⟨_, rfl, by first | (unfold Bnd; omega) | omega⟩)
theorem gnums_7 (W : World) : Nums (W.alloc (.cells #[.int .i64 0, .int .i64 1000000, .int .i64 1000001] 3)) W.heap.size 3 (Bnd) := nums_new W [.int .i64 0, .int .i64 1000000, .int .i64 1000001] 3 _ (by
  intro v hv
  simp only [List.mem_cons, List.mem_nil_iff, or_false] at hv
  rcases hv with rfl | rfl | rfl <;> exact ⟨_, rfl, by first | (unfold Bnd; omega) | omega⟩)
set_option maxRecDepth 100000 in
set_option maxHeartbeats 4000000 in
theorem polOdd_draw (w : World) (cb B : Nat) (a0 : Option Addr) (len0 cap0 : Nat) (hd : Dr B w cb 91 a0 len0 cap0) (hB : B ≤ w.heap.size) :
    Calls Try.prog 71 #[.pointer (some ⟨cb, 0, none⟩)] w fun e w' => PolEnd PolW e ∧ Went B w w' cb 91 a0 len0 cap0 := by
  have hcb := hd.cur.lt
  have HBL := Lib.hid hB
  obtain ⟨w0, hw0⟩ : ∃ W, W = w.alloc (.cells #[.int .i64 0, .int .i64 0, .int .i64 0, .int .i64 0] 25) := ⟨_, rfl⟩
  have HW0 := Lib.hid (show Went B w w0 cb 91 a0 len0 cap0 by rw [hw0]; exact hd.refl.alloc _)
  have HR0 := Lib.hid (show Box w0 w.heap.size 25 [.int .i64 0, .int .i64 0, .int .i64 0, .int .i64 0] by rw [hw0]; exact Box.new w [.int .i64 0, .int .i64 0, .int .i64 0, .int .i64 0] 25)
  have HWE := Lib.hid hw0
  have HNR := Lib.hid (show w.heap.size ≠ cb by omega)
  clear hw0 hd hB hcb
  go_enter Try.func71, Try.ntmps71
  go_upto_region 1 with fail
  rw [← HWE.out]
  clear HWE
  go_wp2_with fail
  refine (polMake_draw _ cb B a0 len0 cap0 HW0.out.dr (Nat.le_trans HBL.out HW0.out.grown.size)).mono ?_
  rintro e w1 ⟨⟨b, c, j, t, hmk, rfl⟩, hw⟩
  have HMK := Lib.hid (polRW hmk)
  clear hmk
  have HW1 := Lib.hid (HW0.out.trans hw)
  have HR1 := Lib.hid (HR0.out.grown hw.grown (by simpa using HNR.out))
  clear hw HW0 HR0
  obtain ⟨fb, hfb⟩ : ∃ k, k = w1.heap.size := ⟨_, rfl⟩
  go_upto_region 2 with (first | (refine wpList_store_box rfl _ _ 25 rfl rfl [.int .i64 b, .int .i64 c, .int .i64 j, .int .i64 t] rfl (Box.new _ [.int .i64 0, .int .i64 0, .int .i64 0, .int .i64 0] 25) sizePolD rfl rfl ?_; intro w2 hXb hgV hlV) | fail)
  rw [← hfb] at hXb hgV hlV ⊢
  have HNF := Lib.hid (show fb ≠ cb by have := HW1.out.dr.cur.lt; omega)
  have HFW := Lib.hid (show w.heap.size ≤ fb by have := HW1.out.grown.size; omega)
  have HFR := Lib.hid (show w.heap.size < fb by have := HR1.out.lt; omega)
  have HW2 := Lib.hid (went_box (HW1.out.alloc (.cells #[.int .i64 0, .int .i64 0, .int .i64 0, .int .i64 0] 25)) HFW.out HNF.out hgV (hlV B _ (Nat.le_trans HBL.out HFW.out) (Below.refl _ _)))
  have HF2 := Lib.hid hXb
  have HR2 := Lib.hid ((HR1.out.below (bOne w1 (.cells #[.int .i64 0, .int .i64 0, .int .i64 0, .int .i64 0] 25))).grown hgV (by have := HFR.out; simp; omega))
  clear hXb hgV hlV hfb HW1 HR1
  go_wp2_with fail
  refine (below_draw _ cb B a0 len0 cap0 HW2.out.dr 12 (by omega) (by omega)).mono ?_
  rintro e w3 ⟨⟨x, rfl, hx0, hx1⟩, hw⟩
  have HW3 := Lib.hid (HW2.out.trans hw)
  have HR3 := Lib.hid (HR2.out.grown hw.grown (by simpa using HNR.out))
  have HF3 := Lib.hid (HF2.out.grown hw.grown (by simpa using HNF.out))
  clear hw HW2 HR2 HF2
  rcases (show x = 0 ∨ x = 1 ∨ x = 2 ∨ x = 3 ∨ 4 ≤ x by omega) with rfl | rfl | rfl | rfl | hx
  · go_wp2_with fail
    have HW3a := Lib.hid (HW3.out.alloc (.cells #[.int .i64 0, .int .i64 (-1), .int .i64 100001] 3))
    have HR3a := Lib.hid (HR3.out.below (bOne w3 (.cells #[.int .i64 0, .int .i64 (-1), .int .i64 100001] 3)))
    have HF3a := Lib.hid (HF3.out.below (bOne w3 (.cells #[.int .i64 0, .int .i64 (-1), .int .i64 100001] 3)))
    refine (pickInt_draw _ cb B a0 len0 cap0 HW3a.out.dr w3.heap.size 3 (Bnd) (gnums_4 w3) (by have := HW3.out.dr.cur.lt; omega) (by simp) (by omega) (by omega)).mono ?_
    rintro e w4 ⟨⟨z, rfl, hz⟩, hw⟩
    have HW4 := Lib.hid (HW3a.out.trans hw)
    have HR4 := Lib.hid (HR3a.out.grown hw.grown (by simpa using HNR.out))
    have HF4 := Lib.hid (HF3a.out.grown hw.grown (by simpa using HNF.out))
    clear hw HW3 HW3a HR3 HR3a HF3 HF3a
    have hFx := Box.store [.int .i64 z] 0 _ _ HF4.out
    have hgx := store_grown (k := fb) [.int .i64 z] 0 w4
    have hlx : Below B w4 (storeMany w4 fb 0 [.int .i64 z]) := store_below (Nat.le_trans HBL.out HFW.out) [.int .i64 z] 0 _ _ (Below.refl _ _)
    have HW5 := Lib.hid (went_box HW4.out HFW.out HNF.out hgx hlx)
    have HR5 := Lib.hid (HR4.out.grown hgx (by have := HFR.out; simp; omega))
    have HF5 := Lib.hid (show Box (storeMany w4 fb 0 [.int .i64 z]) fb 25 [.int .i64 z, .int .i64 c, .int .i64 j, .int .i64 t] from hFx)
    have hst : ∃ W, W = storeMany w4 fb 0 [.int .i64 z] := ⟨_, rfl⟩
    obtain ⟨w5, hst⟩ := hst
    have hst2 := hst
    simp only [storeMany, Nat.reduceAdd] at hst2
    rw [← hst] at HW5 HR5 HF5
    clear hFx hgx hlx
    have c0 := HF4.out.cell 0 _ rfl
    have hfz := fun i => HF4.out.frozen i
    go_upto_region 11 with fail
    rw [← hst2]
    clear hst hst2 c0 hfz HW4 HR4 HF4
    go_wp2_with (first | (refine wpList_load_box rfl _ 25 rfl rfl HF5.out _ Try.underlying25 sizePolD ?_) | (refine wpList_store_box rfl _ _ 25 rfl rfl [.int .i64 z, .int .i64 c, .int .i64 j, .int .i64 t] rfl HR5.out sizePolD rfl rfl ?_; intro V hXb hgV hlV) | fail)
    exact bodyPost_ret (v := .agg #[.int .i64 z, .int .i64 c, .int .i64 j, .int .i64 t]) (results_box _ Try.results71 rfl hXb _ Try.underlying25 sizePolD) rfl ⟨⟨_, _, _, _, by have hm := HMK.out; unfold PolW Bnd at *; omega, rfl⟩, went_box HW5.out (Nat.le_refl _) HNR.out hgV (hlV B _ HBL.out (Below.refl _ _))⟩
  · go_wp2_with fail
    have HW3a := Lib.hid (HW3.out.alloc (.cells #[.int .i64 0, .int .i64 100000, .int .i64 100001] 3))
    have HR3a := Lib.hid (HR3.out.below (bOne w3 (.cells #[.int .i64 0, .int .i64 100000, .int .i64 100001] 3)))
    have HF3a := Lib.hid (HF3.out.below (bOne w3 (.cells #[.int .i64 0, .int .i64 100000, .int .i64 100001] 3)))
    refine (pickInt_draw _ cb B a0 len0 cap0 HW3a.out.dr w3.heap.size 3 (Bnd) (gnums_5 w3) (by have := HW3.out.dr.cur.lt; omega) (by simp) (by omega) (by omega)).mono ?_
    rintro e w4 ⟨⟨z, rfl, hz⟩, hw⟩
    have HW4 := Lib.hid (HW3a.out.trans hw)
    have HR4 := Lib.hid (HR3a.out.grown hw.grown (by simpa using HNR.out))
    have HF4 := Lib.hid (HF3a.out.grown hw.grown (by simpa using HNF.out))
    clear hw HW3 HW3a HR3 HR3a HF3 HF3a
    have hFx := Box.store [.int .i64 z] 1 _ _ HF4.out
    have hgx := store_grown (k := fb) [.int .i64 z] 1 w4
    have hlx : Below B w4 (storeMany w4 fb 1 [.int .i64 z]) := store_below (Nat.le_trans HBL.out HFW.out) [.int .i64 z] 1 _ _ (Below.refl _ _)
    have HW5 := Lib.hid (went_box HW4.out HFW.out HNF.out hgx hlx)
    have HR5 := Lib.hid (HR4.out.grown hgx (by have := HFR.out; simp; omega))
    have HF5 := Lib.hid (show Box (storeMany w4 fb 1 [.int .i64 z]) fb 25 [.int .i64 b, .int .i64 z, .int .i64 j, .int .i64 t] from hFx)
    have hst : ∃ W, W = storeMany w4 fb 1 [.int .i64 z] := ⟨_, rfl⟩
    obtain ⟨w5, hst⟩ := hst
    have hst2 := hst
    simp only [storeMany, Nat.reduceAdd] at hst2
    rw [← hst] at HW5 HR5 HF5
    clear hFx hgx hlx
    have c0 := HF4.out.cell 1 _ rfl
    have hfz := fun i => HF4.out.frozen i
    go_upto_region 11 with fail
    rw [← hst2]
    clear hst hst2 c0 hfz HW4 HR4 HF4
    go_wp2_with (first | (refine wpList_load_box rfl _ 25 rfl rfl HF5.out _ Try.underlying25 sizePolD ?_) | (refine wpList_store_box rfl _ _ 25 rfl rfl [.int .i64 b, .int .i64 z, .int .i64 j, .int .i64 t] rfl HR5.out sizePolD rfl rfl ?_; intro V hXb hgV hlV) | fail)
    exact bodyPost_ret (v := .agg #[.int .i64 b, .int .i64 z, .int .i64 j, .int .i64 t]) (results_box _ Try.results71 rfl hXb _ Try.underlying25 sizePolD) rfl ⟨⟨_, _, _, _, by have hm := HMK.out; unfold PolW Bnd at *; omega, rfl⟩, went_box HW5.out (Nat.le_refl _) HNR.out hgV (hlV B _ HBL.out (Below.refl _ _))⟩
  · go_wp2_with fail
    have HW3a := Lib.hid (HW3.out.alloc (.cells #[.int .i64 (-1), .int .i64 1000, .int .i64 1001] 3))
    have HR3a := Lib.hid (HR3.out.below (bOne w3 (.cells #[.int .i64 (-1), .int .i64 1000, .int .i64 1001] 3)))
    have HF3a := Lib.hid (HF3.out.below (bOne w3 (.cells #[.int .i64 (-1), .int .i64 1000, .int .i64 1001] 3)))
    refine (pickInt_draw _ cb B a0 len0 cap0 HW3a.out.dr w3.heap.size 3 (Bnd) (gnums_6 w3) (by have := HW3.out.dr.cur.lt; omega) (by simp) (by omega) (by omega)).mono ?_
    rintro e w4 ⟨⟨z, rfl, hz⟩, hw⟩
    have HW4 := Lib.hid (HW3a.out.trans hw)
    have HR4 := Lib.hid (HR3a.out.grown hw.grown (by simpa using HNR.out))
    have HF4 := Lib.hid (HF3a.out.grown hw.grown (by simpa using HNF.out))
    clear hw HW3 HW3a HR3 HR3a HF3 HF3a
    have hFx := Box.store [.int .i64 z] 2 _ _ HF4.out
    have hgx := store_grown (k := fb) [.int .i64 z] 2 w4
    have hlx : Below B w4 (storeMany w4 fb 2 [.int .i64 z]) := store_below (Nat.le_trans HBL.out HFW.out) [.int .i64 z] 2 _ _ (Below.refl _ _)
    have HW5 := Lib.hid (went_box HW4.out HFW.out HNF.out hgx hlx)
    have HR5 := Lib.hid (HR4.out.grown hgx (by have := HFR.out; simp; omega))
    have HF5 := Lib.hid (show Box (storeMany w4 fb 2 [.int .i64 z]) fb 25 [.int .i64 b, .int .i64 c, .int .i64 z, .int .i64 t] from hFx)
    have hst : ∃ W, W = storeMany w4 fb 2 [.int .i64 z] := ⟨_, rfl⟩
    obtain ⟨w5, hst⟩ := hst
    have hst2 := hst
    simp only [storeMany, Nat.reduceAdd] at hst2
    rw [← hst] at HW5 HR5 HF5
    clear hFx hgx hlx
    have c0 := HF4.out.cell 2 _ rfl
    have hfz := fun i => HF4.out.frozen i
    go_upto_region 11 with fail
    rw [← hst2]
    clear hst hst2 c0 hfz HW4 HR4 HF4
    go_wp2_with (first | (refine wpList_load_box rfl _ 25 rfl rfl HF5.out _ Try.underlying25 sizePolD ?_) | (refine wpList_store_box rfl _ _ 25 rfl rfl [.int .i64 b, .int .i64 c, .int .i64 z, .int .i64 t] rfl HR5.out sizePolD rfl rfl ?_; intro V hXb hgV hlV) | fail)
    exact bodyPost_ret (v := .agg #[.int .i64 b, .int .i64 c, .int .i64 z, .int .i64 t]) (results_box _ Try.results71 rfl hXb _ Try.underlying25 sizePolD) rfl ⟨⟨_, _, _, _, by have hm := HMK.out; unfold PolW Bnd at *; omega, rfl⟩, went_box HW5.out (Nat.le_refl _) HNR.out hgV (hlV B _ HBL.out (Below.refl _ _))⟩
  · go_wp2_with fail
    have HW3a := Lib.hid (HW3.out.alloc (.cells #[.int .i64 0, .int .i64 1000000, .int .i64 1000001] 3))
    have HR3a := Lib.hid (HR3.out.below (bOne w3 (.cells #[.int .i64 0, .int .i64 1000000, .int .i64 1000001] 3)))
    have HF3a := Lib.hid (HF3.out.below (bOne w3 (.cells #[.int .i64 0, .int .i64 1000000, .int .i64 1000001] 3)))
    refine (pickInt_draw _ cb B a0 len0 cap0 HW3a.out.dr w3.heap.size 3 (Bnd) (gnums_7 w3) (by have := HW3.out.dr.cur.lt; omega) (by simp) (by omega) (by omega)).mono ?_
    rintro e w4 ⟨⟨z, rfl, hz⟩, hw⟩
    have HW4 := Lib.hid (HW3a.out.trans hw)
    have HR4 := Lib.hid (HR3a.out.grown hw.grown (by simpa using HNR.out))
    have HF4 := Lib.hid (HF3a.out.grown hw.grown (by simpa using HNF.out))
    clear hw HW3 HW3a HR3 HR3a HF3 HF3a
    have hFx := Box.store [.int .i64 z] 3 _ _ HF4.out
    have hgx := store_grown (k := fb) [.int .i64 z] 3 w4
    have hlx : Below B w4 (storeMany w4 fb 3 [.int .i64 z]) := store_below (Nat.le_trans HBL.out HFW.out) [.int .i64 z] 3 _ _ (Below.refl _ _)
    have HW5 := Lib.hid (went_box HW4.out HFW.out HNF.out hgx hlx)
    have HR5 := Lib.hid (HR4.out.grown hgx (by have := HFR.out; simp; omega))
    have HF5 := Lib.hid (show Box (storeMany w4 fb 3 [.int .i64 z]) fb 25 [.int .i64 b, .int .i64 c, .int .i64 j, .int .i64 z] from hFx)
    have hst : ∃ W, W = storeMany w4 fb 3 [.int .i64 z] := ⟨_, rfl⟩
    obtain ⟨w5, hst⟩ := hst
    have hst2 := hst
    simp only [storeMany, Nat.reduceAdd] at hst2
    rw [← hst] at HW5 HR5 HF5
    clear hFx hgx hlx
    have c0 := HF4.out.cell 3 _ rfl
    have hfz := fun i => HF4.out.frozen i
    go_upto_region 11 with fail
    rw [← hst2]
    clear hst hst2 c0 hfz HW4 HR4 HF4
    go_wp2_with (first | (refine wpList_load_box rfl _ 25 rfl rfl HF5.out _ Try.underlying25 sizePolD ?_) | (refine wpList_store_box rfl _ _ 25 rfl rfl [.int .i64 b, .int .i64 c, .int .i64 j, .int .i64 z] rfl HR5.out sizePolD rfl rfl ?_; intro V hXb hgV hlV) | fail)
    exact bodyPost_ret (v := .agg #[.int .i64 b, .int .i64 c, .int .i64 j, .int .i64 z]) (results_box _ Try.results71 rfl hXb _ Try.underlying25 sizePolD) rfl ⟨⟨_, _, _, _, by have hm := HMK.out; unfold PolW Bnd at *; omega, rfl⟩, went_box HW5.out (Nat.le_refl _) HNR.out hgV (hlV B _ HBL.out (Below.refl _ _))⟩
  · go_wp2_with (first | (refine wpList_load_box rfl _ 25 rfl rfl HF3.out _ Try.underlying25 sizePolD ?_) | (refine wpList_store_box rfl _ _ 25 rfl rfl [.int .i64 b, .int .i64 c, .int .i64 j, .int .i64 t] rfl HR3.out sizePolD rfl rfl ?_; intro V hXb hgV hlV) | fail)
    exact bodyPost_ret (v := .agg #[.int .i64 b, .int .i64 c, .int .i64 j, .int .i64 t]) (results_box _ Try.results71 rfl hXb _ Try.underlying25 sizePolD) rfl ⟨⟨_, _, _, _, by have hm := HMK.out; unfold PolW Bnd at *; omega, rfl⟩, went_box HW3.out (Nat.le_refl _) HNR.out hgV (hlV B _ HBL.out (Below.refl _ _))⟩

set_option maxRecDepth 100000 in
set_option maxHeartbeats 4000000 in
theorem cfgMake_draw (w : World) (cb B : Nat) (a0 : Option Addr) (len0 cap0 : Nat) (hd : Dr B w cb 91 a0 len0 cap0) (hB : B ≤ w.heap.size) :
    Calls Try.prog 68 #[.pointer (some ⟨cb, 0, none⟩)] w fun e w' => CfgEnd CfgR e ∧ Went B w w' cb 91 a0 len0 cap0 := by
  have hcb := hd.cur.lt
  have HBL := Lib.hid hB
  obtain ⟨w0, hw0⟩ : ∃ W, W = w.alloc (.cells #[.int .i64 0, .int .i64 0, .int .i64 0, .int .i64 0, .int .i64 0, .int .i64 0, .int .i64 0, .int .i64 0, .int .i64 0, .int .i64 0, .int .i64 0] 27) := ⟨_, rfl⟩
  have HW0 := Lib.hid (show Went B w w0 cb 91 a0 len0 cap0 by rw [hw0]; exact hd.refl.alloc _)
  have HR0 := Lib.hid (show Box w0 w.heap.size 27 [.int .i64 0, .int .i64 0, .int .i64 0, .int .i64 0, .int .i64 0, .int .i64 0, .int .i64 0, .int .i64 0, .int .i64 0, .int .i64 0, .int .i64 0] by rw [hw0]; exact Box.new w [.int .i64 0, .int .i64 0, .int .i64 0, .int .i64 0, .int .i64 0, .int .i64 0, .int .i64 0, .int .i64 0, .int .i64 0, .int .i64 0, .int .i64 0] 27)
  have HWE := Lib.hid hw0
  have HNR := Lib.hid (show w.heap.size ≠ cb by omega)
  clear hw0 hd hB hcb
  go_enter Try.func68, Try.ntmps68
  go_upto_region 1 with fail
  rw [← HWE.out]
  clear HWE
  go_wp2_with fail
  refine (below_draw _ cb B a0 len0 cap0 HW0.out.dr 3 (by omega) (by omega)).mono ?_
  rintro e w1 ⟨⟨de, rfl, hde0, hde1⟩, hw⟩
  have HW1 := Lib.hid (HW0.out.trans hw)
  have HR1 := Lib.hid (HR0.out.grown hw.grown (by simpa using HNR.out))
  clear hw HW0 HR0
  go_wp2_with fail
  refine (below_draw _ cb B a0 len0 cap0 HW1.out.dr 4 (by omega) (by omega)).mono ?_
  rintro e w2 ⟨⟨qu, rfl, hqu0, hqu1⟩, hw⟩
  have HW2 := Lib.hid (HW1.out.trans hw)
  have HR2 := Lib.hid (HR1.out.grown hw.grown (by simpa using HNR.out))
  clear hw HW1 HR1
  go_wp2_with fail
  refine (below_draw _ cb B a0 len0 cap0 HW2.out.dr 3 (by omega) (by omega)).mono ?_
  rintro e w3 ⟨⟨wi, rfl, hwi0, hwi1⟩, hw⟩
  have HW3 := Lib.hid (HW2.out.trans hw)
  have HR3 := Lib.hid (HR2.out.grown hw.grown (by simpa using HNR.out))
  clear hw HW2 HR2
  go_wp2_with fail
  refine (below_draw _ cb B a0 len0 cap0 HW3.out.dr 5 (by omega) (by omega)).mono ?_
  rintro e w4 ⟨⟨ti, rfl, hti0, hti1⟩, hw⟩
  have HW4 := Lib.hid (HW3.out.trans hw)
  have HR4 := Lib.hid (HR3.out.grown hw.grown (by simpa using HNR.out))
  clear hw HW3 HR3
  go_wp2_with fail
  refine (below_draw _ cb B a0 len0 cap0 HW4.out.dr 6 (by omega) (by omega)).mono ?_
  rintro e w5 ⟨⟨qa, rfl, hqa0, hqa1⟩, hw⟩
  have HW5 := Lib.hid (HW4.out.trans hw)
  have HR5 := Lib.hid (HR4.out.grown hw.grown (by simpa using HNR.out))
  clear hw HW4 HR4
  go_wp2_with fail
  refine (below_draw _ cb B a0 len0 cap0 HW5.out.dr (1 + de) (by omega) (by omega)).mono ?_
  rintro e w6 ⟨⟨bu, rfl, hbu0, hbu1⟩, hw⟩
  have HW6 := Lib.hid (HW5.out.trans hw)
  have HR6 := Lib.hid (HR5.out.grown hw.grown (by simpa using HNR.out))
  clear hw HW5 HR5
  go_wp2_with fail
  refine (below_draw _ cb B a0 len0 cap0 HW6.out.dr 3 (by omega) (by omega)).mono ?_
  rintro e w7 ⟨⟨le, rfl, hle0, hle1⟩, hw⟩
  have HW7 := Lib.hid (HW6.out.trans hw)
  have HR7 := Lib.hid (HR6.out.grown hw.grown (by simpa using HNR.out))
  clear hw HW6 HR6
  go_wp2_with fail
  refine (polMake_draw _ cb B a0 len0 cap0 HW7.out.dr (Nat.le_trans HBL.out HW7.out.grown.size)).mono ?_
  rintro e w8 ⟨⟨b, c, j, t, hpr, rfl⟩, hw⟩
  have HPR := Lib.hid hpr
  clear hpr
  have HW8 := Lib.hid (HW7.out.trans hw)
  have HR8 := Lib.hid (HR7.out.grown hw.grown (by simpa using HNR.out))
  clear hw HW7 HR7
  go_wp2_with (first | (refine wpList_store_box rfl _ _ 27 rfl rfl [.int .i64 (1 + de), .int .i64 (1 + qu), .int .i64 (1 + wi), .int .i64 (1 + ti), .int .i64 (1 + qa), .int .i64 (1 + bu), .int .i64 (1 + le), .int .i64 b, .int .i64 c, .int .i64 j, .int .i64 t] rfl HR8.out sizeCfg rfl rfl ?_; intro V hXb hgV hlV) | fail)
  exact bodyPost_ret (v := .agg #[.int .i64 (1 + de), .int .i64 (1 + qu), .int .i64 (1 + wi), .int .i64 (1 + ti), .int .i64 (1 + qa), .int .i64 (1 + bu), .int .i64 (1 + le), .int .i64 b, .int .i64 c, .int .i64 j, .int .i64 t]) (results_box _ Try.results68 rfl hXb _ Try.underlying27 sizeCfg) rfl ⟨⟨_, _, _, _, _, _, _, _, _, _, _, ⟨by omega, by omega, by omega, by omega, by omega, by omega, by omega, HPR.out⟩, rfl⟩, went_box HW8.out (Nat.le_refl _) HNR.out hgV (hlV B _ HBL.out (Below.refl _ _))⟩


theorem gnums_8 (W : World) : Nums (W.alloc (.cells #[.int .i64 0, .int .i64 6, .int .i64 7] 3)) W.heap.size 3 (fun z => 0 ≤ z ∧ z ≤ 7) := nums_new W [.int .i64 0, .int .i64 6, .int .i64 7] 3 _ (by
  intro v hv
  simp only [List.mem_cons, List.mem_nil_iff, or_false] at hv
  rcases hv with rfl | rfl | rfl <;> exact ⟨_, rfl, by first | (unfold Bnd; omega) | omega⟩)
theorem gnums_9 (W : World) : Nums (W.alloc (.cells #[.int .i64 0, .int .i64 9] 3)) W.heap.size 2 (Bnd) := nums_new W [.int .i64 0, .int .i64 9] 3 _ (by
  intro v hv
  simp only [List.mem_cons, List.mem_nil_iff, or_false] at hv
  rcases hv with rfl | rfl <;> exact ⟨_, rfl, by first | (unfold Bnd; omega) | omega⟩)
theorem gnums_10 (W : World) : Nums (W.alloc (.cells #[.int .i64 0, .int .i64 1000, .int .i64 1001] 3)) W.heap.size 3 (Bnd) := nums_new W [.int .i64 0, .int .i64 1000, .int .i64 1001] 3 _ (by
  intro v hv
  simp only [List.mem_cons, List.mem_nil_iff, or_false] at hv
  rcases hv with rfl | rfl | rfl <;> exact ⟨_, rfl, by first | (unfold Bnd; omega) | omega⟩)
theorem gnums_11 (W : World) : Nums (W.alloc (.cells #[.int .i64 0, .int .i64 10, .int .i64 11] 3)) W.heap.size 3 (Bnd) := nums_new W [.int .i64 0, .int .i64 10, .int .i64 11] 3 _ (by
  intro v hv
  simp only [List.mem_cons, List.mem_nil_iff, or_false] at hv
  rcases hv with rfl | rfl | rfl <;> exact ⟨_, rfl, by first | (unfold Bnd; omega) | omega⟩)
set_option maxRecDepth 100000 in
set_option maxHeartbeats 4000000 in
theorem cfgOdd_draw (w : World) (cb B : Nat) (a0 : Option Addr) (len0 cap0 : Nat) (hd : Dr B w cb 91 a0 len0 cap0) (hB : B ≤ w.heap.size) :
    Calls Try.prog 30 #[.pointer (some ⟨cb, 0, none⟩)] w fun e w' => CfgEnd CfgW e ∧ Went B w w' cb 91 a0 len0 cap0 := by
  have hcb := hd.cur.lt
  have HBL := Lib.hid hB
  obtain ⟨w0, hw0⟩ : ∃ W, W = w.alloc (.cells #[.int .i64 0, .int .i64 0, .int .i64 0, .int .i64 0, .int .i64 0, .int .i64 0, .int .i64 0, .int .i64 0, .int .i64 0, .int .i64 0, .int .i64 0] 27) := ⟨_, rfl⟩
  have HW0 := Lib.hid (show Went B w w0 cb 91 a0 len0 cap0 by rw [hw0]; exact hd.refl.alloc _)
  have HR0 := Lib.hid (show Box w0 w.heap.size 27 [.int .i64 0, .int .i64 0, .int .i64 0, .int .i64 0, .int .i64 0, .int .i64 0, .int .i64 0, .int .i64 0, .int .i64 0, .int .i64 0, .int .i64 0] by rw [hw0]; exact Box.new w [.int .i64 0, .int .i64 0, .int .i64 0, .int .i64 0, .int .i64 0, .int .i64 0, .int .i64 0, .int .i64 0, .int .i64 0, .int .i64 0, .int .i64 0] 27)
  have HWE := Lib.hid hw0
  have HNR := Lib.hid (show w.heap.size ≠ cb by omega)
  clear hw0 hd hB hcb
  go_enter Try.func30, Try.ntmps30
  go_upto_region 1 with fail
  rw [← HWE.out]
  clear HWE
  go_wp2_with fail
  refine (cfgMake_draw _ cb B a0 len0 cap0 HW0.out.dr (Nat.le_trans HBL.out HW0.out.grown.size)).mono ?_
  rintro e w1 ⟨⟨de, qu, wi, ti, qa, bu, le, b, c, j, t, hmk, rfl⟩, hw⟩
  have HMK := Lib.hid (cfgRW hmk)
  clear hmk
  have HW1 := Lib.hid (HW0.out.trans hw)
  have HR1 := Lib.hid (HR0.out.grown hw.grown (by simpa using HNR.out))
  clear hw HW0 HR0
  obtain ⟨fb, hfb⟩ : ∃ k, k = w1.heap.size := ⟨_, rfl⟩
  go_upto_region 2 with (first | (refine wpList_store_box rfl _ _ 27 rfl rfl [.int .i64 de, .int .i64 qu, .int .i64 wi, .int .i64 ti, .int .i64 qa, .int .i64 bu, .int .i64 le, .int .i64 b, .int .i64 c, .int .i64 j, .int .i64 t] rfl (Box.new _ [.int .i64 0, .int .i64 0, .int .i64 0, .int .i64 0, .int .i64 0, .int .i64 0, .int .i64 0, .int .i64 0, .int .i64 0, .int .i64 0, .int .i64 0] 27) sizeCfg rfl rfl ?_; intro w2 hXb hgV hlV) | fail)
  rw [← hfb] at hXb hgV hlV ⊢
  have HNF := Lib.hid (show fb ≠ cb by have := HW1.out.dr.cur.lt; omega)
  have HFW := Lib.hid (show w.heap.size ≤ fb by have := HW1.out.grown.size; omega)
  have HFR := Lib.hid (show w.heap.size < fb by have := HR1.out.lt; omega)
  have HW2 := Lib.hid (went_box (HW1.out.alloc (.cells #[.int .i64 0, .int .i64 0, .int .i64 0, .int .i64 0, .int .i64 0, .int .i64 0, .int .i64 0, .int .i64 0, .int .i64 0, .int .i64 0, .int .i64 0] 27)) HFW.out HNF.out hgV (hlV B _ (Nat.le_trans HBL.out HFW.out) (Below.refl _ _)))
  have HF2 := Lib.hid hXb
  have HR2 := Lib.hid ((HR1.out.below (bOne w1 (.cells #[.int .i64 0, .int .i64 0, .int .i64 0, .int .i64 0, .int .i64 0, .int .i64 0, .int .i64 0, .int .i64 0, .int .i64 0, .int .i64 0, .int .i64 0] 27))).grown hgV (by have := HFR.out; simp; omega))
  clear hXb hgV hlV hfb HW1 HR1
  go_wp2_with fail
  refine (below_draw _ cb B a0 len0 cap0 HW2.out.dr 12 (by omega) (by omega)).mono ?_
  rintro e w3 ⟨⟨x, rfl, hx0, hx1⟩, hw⟩
  have HW3 := Lib.hid (HW2.out.trans hw)
  have HR3 := Lib.hid (HR2.out.grown hw.grown (by simpa using HNR.out))
  have HF3 := Lib.hid (HF2.out.grown hw.grown (by simpa using HNF.out))
  clear hw HW2 HR2 HF2
  rcases (show x = 0 ∨ x = 1 ∨ x = 2 ∨ x = 3 ∨ x = 4 ∨ 5 ≤ x by omega) with rfl | rfl | rfl | rfl | rfl | hx
  · go_wp2_with fail
    have HW3a := Lib.hid (HW3.out.alloc (.cells #[.int .i64 0, .int .i64 6, .int .i64 7] 3))
    have HR3a := Lib.hid (HR3.out.below (bOne w3 (.cells #[.int .i64 0, .int .i64 6, .int .i64 7] 3)))
    have HF3a := Lib.hid (HF3.out.below (bOne w3 (.cells #[.int .i64 0, .int .i64 6, .int .i64 7] 3)))
    refine (pickInt_draw _ cb B a0 len0 cap0 HW3a.out.dr w3.heap.size 3 (fun z => 0 ≤ z ∧ z ≤ 7) (gnums_8 w3) (by have := HW3.out.dr.cur.lt; omega) (by simp) (by omega) (by omega)).mono ?_
    rintro e w4 ⟨⟨z, rfl, hz⟩, hw⟩
    have HW4 := Lib.hid (HW3a.out.trans hw)
    have HR4 := Lib.hid (HR3a.out.grown hw.grown (by simpa using HNR.out))
    have HF4 := Lib.hid (HF3a.out.grown hw.grown (by simpa using HNF.out))
    clear hw HW3 HW3a HR3 HR3a HF3 HF3a
    have hFx := Box.store [.int .i64 z] 0 _ _ HF4.out
    have hgx := store_grown (k := fb) [.int .i64 z] 0 w4
    have hlx : Below B w4 (storeMany w4 fb 0 [.int .i64 z]) := store_below (Nat.le_trans HBL.out HFW.out) [.int .i64 z] 0 _ _ (Below.refl _ _)
    have HW5 := Lib.hid (went_box HW4.out HFW.out HNF.out hgx hlx)
    have HR5 := Lib.hid (HR4.out.grown hgx (by have := HFR.out; simp; omega))
    have HF5 := Lib.hid (show Box (storeMany w4 fb 0 [.int .i64 z]) fb 27 [.int .i64 z, .int .i64 qu, .int .i64 wi, .int .i64 ti, .int .i64 qa, .int .i64 bu, .int .i64 le, .int .i64 b, .int .i64 c, .int .i64 j, .int .i64 t] from hFx)
    have hst : ∃ W, W = storeMany w4 fb 0 [.int .i64 z] := ⟨_, rfl⟩
    obtain ⟨w5, hst⟩ := hst
    have hst2 := hst
    simp only [storeMany, Nat.reduceAdd] at hst2
    rw [← hst] at HW5 HR5 HF5
    clear hFx hgx hlx
    have c0 := HF4.out.cell 0 _ rfl
    have hfz := fun i => HF4.out.frozen i
    go_upto_region 13 with fail
    rw [← hst2]
    clear hst hst2 c0 hfz HW4 HR4 HF4
    go_wp2_with (first | (refine wpList_load_box rfl _ 27 rfl rfl HF5.out _ Try.underlying27 sizeCfg ?_) | (refine wpList_store_box rfl _ _ 27 rfl rfl [.int .i64 z, .int .i64 qu, .int .i64 wi, .int .i64 ti, .int .i64 qa, .int .i64 bu, .int .i64 le, .int .i64 b, .int .i64 c, .int .i64 j, .int .i64 t] rfl HR5.out sizeCfg rfl rfl ?_; intro V hXb hgV hlV) | fail)
    exact bodyPost_ret (v := .agg #[.int .i64 z, .int .i64 qu, .int .i64 wi, .int .i64 ti, .int .i64 qa, .int .i64 bu, .int .i64 le, .int .i64 b, .int .i64 c, .int .i64 j, .int .i64 t]) (results_box _ Try.results30 rfl hXb _ Try.underlying27 sizeCfg) rfl ⟨⟨_, _, _, _, _, _, _, _, _, _, _, by have hm := HMK.out; unfold CfgW PolW Bnd at *; omega, rfl⟩, went_box HW5.out (Nat.le_refl _) HNR.out hgV (hlV B _ HBL.out (Below.refl _ _))⟩
  · go_wp2_with fail
    have HW3a := Lib.hid (HW3.out.alloc (.cells #[.int .i64 0, .int .i64 9] 3))
    have HR3a := Lib.hid (HR3.out.below (bOne w3 (.cells #[.int .i64 0, .int .i64 9] 3)))
    have HF3a := Lib.hid (HF3.out.below (bOne w3 (.cells #[.int .i64 0, .int .i64 9] 3)))
    refine (pickInt_draw _ cb B a0 len0 cap0 HW3a.out.dr w3.heap.size 2 (Bnd) (gnums_9 w3) (by have := HW3.out.dr.cur.lt; omega) (by simp) (by omega) (by omega)).mono ?_
    rintro e w4 ⟨⟨z, rfl, hz⟩, hw⟩
    have HW4 := Lib.hid (HW3a.out.trans hw)
    have HR4 := Lib.hid (HR3a.out.grown hw.grown (by simpa using HNR.out))
    have HF4 := Lib.hid (HF3a.out.grown hw.grown (by simpa using HNF.out))
    clear hw HW3 HW3a HR3 HR3a HF3 HF3a
    have hFx := Box.store [.int .i64 z] 5 _ _ HF4.out
    have hgx := store_grown (k := fb) [.int .i64 z] 5 w4
    have hlx : Below B w4 (storeMany w4 fb 5 [.int .i64 z]) := store_below (Nat.le_trans HBL.out HFW.out) [.int .i64 z] 5 _ _ (Below.refl _ _)
    have HW5 := Lib.hid (went_box HW4.out HFW.out HNF.out hgx hlx)
    have HR5 := Lib.hid (HR4.out.grown hgx (by have := HFR.out; simp; omega))
    have HF5 := Lib.hid (show Box (storeMany w4 fb 5 [.int .i64 z]) fb 27 [.int .i64 de, .int .i64 qu, .int .i64 wi, .int .i64 ti, .int .i64 qa, .int .i64 z, .int .i64 le, .int .i64 b, .int .i64 c, .int .i64 j, .int .i64 t] from hFx)
    have hst : ∃ W, W = storeMany w4 fb 5 [.int .i64 z] := ⟨_, rfl⟩
    obtain ⟨w5, hst⟩ := hst
    have hst2 := hst
    simp only [storeMany, Nat.reduceAdd] at hst2
    rw [← hst] at HW5 HR5 HF5
    clear hFx hgx hlx
    have c0 := HF4.out.cell 5 _ rfl
    have hfz := fun i => HF4.out.frozen i
    go_upto_region 13 with fail
    rw [← hst2]
    clear hst hst2 c0 hfz HW4 HR4 HF4
    go_wp2_with (first | (refine wpList_load_box rfl _ 27 rfl rfl HF5.out _ Try.underlying27 sizeCfg ?_) | (refine wpList_store_box rfl _ _ 27 rfl rfl [.int .i64 de, .int .i64 qu, .int .i64 wi, .int .i64 ti, .int .i64 qa, .int .i64 z, .int .i64 le, .int .i64 b, .int .i64 c, .int .i64 j, .int .i64 t] rfl HR5.out sizeCfg rfl rfl ?_; intro V hXb hgV hlV) | fail)
    exact bodyPost_ret (v := .agg #[.int .i64 de, .int .i64 qu, .int .i64 wi, .int .i64 ti, .int .i64 qa, .int .i64 z, .int .i64 le, .int .i64 b, .int .i64 c, .int .i64 j, .int .i64 t]) (results_box _ Try.results30 rfl hXb _ Try.underlying27 sizeCfg) rfl ⟨⟨_, _, _, _, _, _, _, _, _, _, _, by have hm := HMK.out; unfold CfgW PolW Bnd at *; omega, rfl⟩, went_box HW5.out (Nat.le_refl _) HNR.out hgV (hlV B _ HBL.out (Below.refl _ _))⟩
  · go_wp2_with fail
    have HW3a := Lib.hid (HW3.out.alloc (.cells #[.int .i64 0, .int .i64 1000, .int .i64 1001] 3))
    have HR3a := Lib.hid (HR3.out.below (bOne w3 (.cells #[.int .i64 0, .int .i64 1000, .int .i64 1001] 3)))
    have HF3a := Lib.hid (HF3.out.below (bOne w3 (.cells #[.int .i64 0, .int .i64 1000, .int .i64 1001] 3)))
    refine (pickInt_draw _ cb B a0 len0 cap0 HW3a.out.dr w3.heap.size 3 (Bnd) (gnums_10 w3) (by have := HW3.out.dr.cur.lt; omega) (by simp) (by omega) (by omega)).mono ?_
    rintro e w4 ⟨⟨z, rfl, hz⟩, hw⟩
    have HW4 := Lib.hid (HW3a.out.trans hw)
    have HR4 := Lib.hid (HR3a.out.grown hw.grown (by simpa using HNR.out))
    have HF4 := Lib.hid (HF3a.out.grown hw.grown (by simpa using HNF.out))
    clear hw HW3 HW3a HR3 HR3a HF3 HF3a
    have hFx := Box.store [.int .i64 z] 3 _ _ HF4.out
    have hgx := store_grown (k := fb) [.int .i64 z] 3 w4
    have hlx : Below B w4 (storeMany w4 fb 3 [.int .i64 z]) := store_below (Nat.le_trans HBL.out HFW.out) [.int .i64 z] 3 _ _ (Below.refl _ _)
    have HW5 := Lib.hid (went_box HW4.out HFW.out HNF.out hgx hlx)
    have HR5 := Lib.hid (HR4.out.grown hgx (by have := HFR.out; simp; omega))
    have HF5 := Lib.hid (show Box (storeMany w4 fb 3 [.int .i64 z]) fb 27 [.int .i64 de, .int .i64 qu, .int .i64 wi, .int .i64 z, .int .i64 qa, .int .i64 bu, .int .i64 le, .int .i64 b, .int .i64 c, .int .i64 j, .int .i64 t] from hFx)
    have hst : ∃ W, W = storeMany w4 fb 3 [.int .i64 z] := ⟨_, rfl⟩
    obtain ⟨w5, hst⟩ := hst
    have hst2 := hst
    simp only [storeMany, Nat.reduceAdd] at hst2
    rw [← hst] at HW5 HR5 HF5
    clear hFx hgx hlx
    have c0 := HF4.out.cell 3 _ rfl
    have hfz := fun i => HF4.out.frozen i
    go_upto_region 13 with fail
    rw [← hst2]
    clear hst hst2 c0 hfz HW4 HR4 HF4
    go_wp2_with (first | (refine wpList_load_box rfl _ 27 rfl rfl HF5.out _ Try.underlying27 sizeCfg ?_) | (refine wpList_store_box rfl _ _ 27 rfl rfl [.int .i64 de, .int .i64 qu, .int .i64 wi, .int .i64 z, .int .i64 qa, .int .i64 bu, .int .i64 le, .int .i64 b, .int .i64 c, .int .i64 j, .int .i64 t] rfl HR5.out sizeCfg rfl rfl ?_; intro V hXb hgV hlV) | fail)
    exact bodyPost_ret (v := .agg #[.int .i64 de, .int .i64 qu, .int .i64 wi, .int .i64 z, .int .i64 qa, .int .i64 bu, .int .i64 le, .int .i64 b, .int .i64 c, .int .i64 j, .int .i64 t]) (results_box _ Try.results30 rfl hXb _ Try.underlying27 sizeCfg) rfl ⟨⟨_, _, _, _, _, _, _, _, _, _, _, by have hm := HMK.out; unfold CfgW PolW Bnd at *; omega, rfl⟩, went_box HW5.out (Nat.le_refl _) HNR.out hgV (hlV B _ HBL.out (Below.refl _ _))⟩
  · go_wp2_with fail
    refine (polOdd_draw _ cb B a0 len0 cap0 HW3.out.dr (Nat.le_trans HBL.out HW3.out.grown.size)).mono ?_
    rintro e w4 ⟨⟨b', c', j', t', hpo, rfl⟩, hw⟩
    have HW4 := Lib.hid (HW3.out.trans hw)
    have HR4 := Lib.hid (HR3.out.grown hw.grown (by simpa using HNR.out))
    have HF4 := Lib.hid (HF3.out.grown hw.grown (by simpa using HNF.out))
    clear hw HW3 HR3 HF3
    have hFx := Box.store [.int .i64 b', .int .i64 c', .int .i64 j', .int .i64 t'] 7 _ _ HF4.out
    have hgx := store_grown (k := fb) [.int .i64 b', .int .i64 c', .int .i64 j', .int .i64 t'] 7 w4
    have hlx : Below B w4 (storeMany w4 fb 7 [.int .i64 b', .int .i64 c', .int .i64 j', .int .i64 t']) := store_below (Nat.le_trans HBL.out HFW.out) [.int .i64 b', .int .i64 c', .int .i64 j', .int .i64 t'] 7 _ _ (Below.refl _ _)
    have HW5 := Lib.hid (went_box HW4.out HFW.out HNF.out hgx hlx)
    have HR5 := Lib.hid (HR4.out.grown hgx (by have := HFR.out; simp; omega))
    have HF5 := Lib.hid (show Box (storeMany w4 fb 7 [.int .i64 b', .int .i64 c', .int .i64 j', .int .i64 t']) fb 27 [.int .i64 de, .int .i64 qu, .int .i64 wi, .int .i64 ti, .int .i64 qa, .int .i64 bu, .int .i64 le, .int .i64 b', .int .i64 c', .int .i64 j', .int .i64 t'] from hFx)
    have hst : ∃ W, W = storeMany w4 fb 7 [.int .i64 b', .int .i64 c', .int .i64 j', .int .i64 t'] := ⟨_, rfl⟩
    obtain ⟨w5, hst⟩ := hst
    have hst2 := hst
    simp only [storeMany, Nat.reduceAdd] at hst2
    rw [← hst] at HW5 HR5 HF5
    clear hFx hgx hlx
    have c0 := HF4.out.cell 7 _ rfl
    have c1 := HF4.out.cell 8 _ rfl
    have c2 := HF4.out.cell 9 _ rfl
    have c3 := HF4.out.cell 10 _ rfl
    have hfz := fun i => HF4.out.frozen i
    go_upto_region 13 with fail
    rw [← hst2]
    clear hst hst2 c0 c1 c2 c3 hfz HW4 HR4 HF4
    go_wp2_with (first | (refine wpList_load_box rfl _ 27 rfl rfl HF5.out _ Try.underlying27 sizeCfg ?_) | (refine wpList_store_box rfl _ _ 27 rfl rfl [.int .i64 de, .int .i64 qu, .int .i64 wi, .int .i64 ti, .int .i64 qa, .int .i64 bu, .int .i64 le, .int .i64 b', .int .i64 c', .int .i64 j', .int .i64 t'] rfl HR5.out sizeCfg rfl rfl ?_; intro V hXb hgV hlV) | fail)
    exact bodyPost_ret (v := .agg #[.int .i64 de, .int .i64 qu, .int .i64 wi, .int .i64 ti, .int .i64 qa, .int .i64 bu, .int .i64 le, .int .i64 b', .int .i64 c', .int .i64 j', .int .i64 t']) (results_box _ Try.results30 rfl hXb _ Try.underlying27 sizeCfg) rfl ⟨⟨_, _, _, _, _, _, _, _, _, _, _, by have hm := HMK.out; unfold CfgW PolW Bnd at *; omega, rfl⟩, went_box HW5.out (Nat.le_refl _) HNR.out hgV (hlV B _ HBL.out (Below.refl _ _))⟩
  · go_wp2_with fail
    have HW3a := Lib.hid (HW3.out.alloc (.cells #[.int .i64 0, .int .i64 10, .int .i64 11] 3))
    have HR3a := Lib.hid (HR3.out.below (bOne w3 (.cells #[.int .i64 0, .int .i64 10, .int .i64 11] 3)))
    have HF3a := Lib.hid (HF3.out.below (bOne w3 (.cells #[.int .i64 0, .int .i64 10, .int .i64 11] 3)))
    refine (pickInt_draw _ cb B a0 len0 cap0 HW3a.out.dr w3.heap.size 3 (Bnd) (gnums_11 w3) (by have := HW3.out.dr.cur.lt; omega) (by simp) (by omega) (by omega)).mono ?_
    rintro e w4 ⟨⟨z, rfl, hz⟩, hw⟩
    have HW4 := Lib.hid (HW3a.out.trans hw)
    have HR4 := Lib.hid (HR3a.out.grown hw.grown (by simpa using HNR.out))
    have HF4 := Lib.hid (HF3a.out.grown hw.grown (by simpa using HNF.out))
    clear hw HW3 HW3a HR3 HR3a HF3 HF3a
    have hFx := Box.store [.int .i64 z] 1 _ _ HF4.out
    have hgx := store_grown (k := fb) [.int .i64 z] 1 w4
    have hlx : Below B w4 (storeMany w4 fb 1 [.int .i64 z]) := store_below (Nat.le_trans HBL.out HFW.out) [.int .i64 z] 1 _ _ (Below.refl _ _)
    have HW5 := Lib.hid (went_box HW4.out HFW.out HNF.out hgx hlx)
    have HR5 := Lib.hid (HR4.out.grown hgx (by have := HFR.out; simp; omega))
    have HF5 := Lib.hid (show Box (storeMany w4 fb 1 [.int .i64 z]) fb 27 [.int .i64 de, .int .i64 z, .int .i64 wi, .int .i64 ti, .int .i64 qa, .int .i64 bu, .int .i64 le, .int .i64 b, .int .i64 c, .int .i64 j, .int .i64 t] from hFx)
    have hst : ∃ W, W = storeMany w4 fb 1 [.int .i64 z] := ⟨_, rfl⟩
    obtain ⟨w5, hst⟩ := hst
    have hst2 := hst
    simp only [storeMany, Nat.reduceAdd] at hst2
    rw [← hst] at HW5 HR5 HF5
    clear hFx hgx hlx
    have c0 := HF4.out.cell 1 _ rfl
    have hfz := fun i => HF4.out.frozen i
    go_upto_region 13 with fail
    rw [← hst2]
    clear hst hst2 c0 hfz HW4 HR4 HF4
    go_wp2_with (first | (refine wpList_load_box rfl _ 27 rfl rfl HF5.out _ Try.underlying27 sizeCfg ?_) | (refine wpList_store_box rfl _ _ 27 rfl rfl [.int .i64 de, .int .i64 z, .int .i64 wi, .int .i64 ti, .int .i64 qa, .int .i64 bu, .int .i64 le, .int .i64 b, .int .i64 c, .int .i64 j, .int .i64 t] rfl HR5.out sizeCfg rfl rfl ?_; intro V hXb hgV hlV) | fail)
    exact bodyPost_ret (v := .agg #[.int .i64 de, .int .i64 z, .int .i64 wi, .int .i64 ti, .int .i64 qa, .int .i64 bu, .int .i64 le, .int .i64 b, .int .i64 c, .int .i64 j, .int .i64 t]) (results_box _ Try.results30 rfl hXb _ Try.underlying27 sizeCfg) rfl ⟨⟨_, _, _, _, _, _, _, _, _, _, _, by have hm := HMK.out; unfold CfgW PolW Bnd at *; omega, rfl⟩, went_box HW5.out (Nat.le_refl _) HNR.out hgV (hlV B _ HBL.out (Below.refl _ _))⟩
  · go_wp2_with (first | (refine wpList_load_box rfl _ 27 rfl rfl HF3.out _ Try.underlying27 sizeCfg ?_) | (refine wpList_store_box rfl _ _ 27 rfl rfl [.int .i64 de, .int .i64 qu, .int .i64 wi, .int .i64 ti, .int .i64 qa, .int .i64 bu, .int .i64 le, .int .i64 b, .int .i64 c, .int .i64 j, .int .i64 t] rfl HR3.out sizeCfg rfl rfl ?_; intro V hXb hgV hlV) | fail)
    exact bodyPost_ret (v := .agg #[.int .i64 de, .int .i64 qu, .int .i64 wi, .int .i64 ti, .int .i64 qa, .int .i64 bu, .int .i64 le, .int .i64 b, .int .i64 c, .int .i64 j, .int .i64 t]) (results_box _ Try.results30 rfl hXb _ Try.underlying27 sizeCfg) rfl ⟨⟨_, _, _, _, _, _, _, _, _, _, _, by have hm := HMK.out; unfold CfgW PolW Bnd at *; omega, rfl⟩, went_box HW3.out (Nat.le_refl _) HNR.out hgV (hlV B _ HBL.out (Below.refl _ _))⟩

end Go.Proofs.Ytecfomaapomncaa.Gat
