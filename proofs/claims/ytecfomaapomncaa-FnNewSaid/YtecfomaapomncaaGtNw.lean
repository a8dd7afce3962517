/-
  The walk of the law FnExactNewGate.
-/
import Derived.Test.YtecfomaapomncaaGtNm
import Derived.Test.YtecfomaapomncaaGtQ
namespace Go.Proofs.Ytecfomaapomncaa.Gat
open Go.RowKit
open Lnk (bOne bAfter IOwn IIs below_keep below_drew' bcell low_after low_alloc grown_of_below mrkI)
set_option linter.unusedVariables false

theorem sizeLCfg : (Try.prog.info? 45).map (·.size) = some 11 := by kernel_rfl
/-- a new gate of the program: its rows are its own -/
def IEnd (n : Nat) (y0 y1 y2 y3 y4 y5 y6 y7 y8 y9 y10 : Int) (w w' : World) (e : Ending) : Prop :=
  (∃ ka kc fa fc, e = .returned (.agg #[.int .i64 y0, .int .i64 y1, .int .i64 y2, .int .i64 y3, .int .i64 y4, .int .i64 y5, .int .i64 y6, .int .i64 y7, .int .i64 y8, .int .i64 y9, .int .i64 y10, .int .i64 0, .int .i64 0, .slice none 0 0, .slice ka n kc, .int .i64 0, .slice fa n fc, .slice none 0 0, .int .i64 0, .int .i64 0, .int .i64 0]) ∧ ROwn lrS w.heap.size w' 42 (.slice ka n kc) (List.replicate n lr0) ∧ IOwn w.heap.size w' (.slice fa n fc) (List.replicate n 0)) ∧ Below w.heap.size w w'
/-- a new gate of the specification: its rows as read -/
def SEnd (n : Nat) (y0 y1 y2 y3 y4 y5 y6 y7 y8 y9 y10 : Int) (w w' : World) (e : Ending) : Prop :=
  (∃ ka kc fa fc, e = .returned (.agg #[.int .i64 y0, .int .i64 y1, .int .i64 y2, .int .i64 y3, .int .i64 y4, .int .i64 y5, .int .i64 y6, .int .i64 y7, .int .i64 y8, .int .i64 y9, .int .i64 y10, .int .i64 0, .int .i64 0, .slice none 0 0, .slice ka n kc, .int .i64 0, .slice fa n fc, .slice none 0 0, .int .i64 0, .int .i64 0, .int .i64 0]) ∧ LIs w'.heap.size w' ka n (List.replicate n lk0) ∧ IIs w'.heap.size w' fa n (List.replicate n 0)) ∧ Below w.heap.size w w'
theorem gis_new {B : Nat} {w : World} {ka fa : Option Addr} {n : Nat} (hn : n ≤ 1000) (hk : LIs B w ka n (List.replicate n lk0)) (hf : IIs B w fa n (List.replicate n 0)) : GIs B w none 0 ka n fa n none 0 [] (List.replicate n lk0) (List.replicate n 0) [] :=
  ⟨EIs.nil _ _ _, hk, hf, iis_nil _ _ _, by unfold maxLen; omega, by unfold maxLen; omega⟩

set_option maxRecDepth 100000 in
set_option maxHeartbeats 8000000 in
theorem exactNew_core (w : World) (de qu wi ti qa bu le pb pc pj pt : Int) (n : Nat) (y0 y1 y2 y3 y4 y5 y6 y7 y8 y9 y10 : Int) (hn : n ≤ 1000)
    (hI : ∀ w, Calls Try.prog 11 #[.agg #[.int .i64 de, .int .i64 qu, .int .i64 wi, .int .i64 ti, .int .i64 qa, .int .i64 bu, .int .i64 le, .int .i64 pb, .int .i64 pc, .int .i64 pj, .int .i64 pt]] w fun e w' => IEnd n y0 y1 y2 y3 y4 y5 y6 y7 y8 y9 y10 w w' e)
    (hS : ∀ w, Calls Try.prog 13 #[.agg #[.int .i64 de, .int .i64 qu, .int .i64 wi, .int .i64 ti, .int .i64 qa, .int .i64 bu, .int .i64 le, .int .i64 pb, .int .i64 pc, .int .i64 pj, .int .i64 pt]] w fun e w' => SEnd n y0 y1 y2 y3 y4 y5 y6 y7 y8 y9 y10 w w' e) :
    Calls Try.prog 6 #[.agg #[.int .i64 de, .int .i64 qu, .int .i64 wi, .int .i64 ti, .int .i64 qa, .int .i64 bu, .int .i64 le, .int .i64 pb, .int .i64 pc, .int .i64 pj, .int .i64 pt]] w fun e w' => e = .returned (.bool true) ∧ Below w.heap.size w w' := by
  obtain ⟨W0, hW0⟩ : ∃ W, W = w.alloc (.cells #[.int .i64 de, .int .i64 qu, .int .i64 wi, .int .i64 ti, .int .i64 qa, .int .i64 bu, .int .i64 le, .int .i64 pb, .int .i64 pc, .int .i64 pj, .int .i64 pt] 45) := ⟨_, rfl⟩
  have HA : Hid (Box W0 w.heap.size 45 [.int .i64 de, .int .i64 qu, .int .i64 wi, .int .i64 ti, .int .i64 qa, .int .i64 bu, .int .i64 le, .int .i64 pb, .int .i64 pc, .int .i64 pj, .int .i64 pt]) := Lib.hid (by rw [hW0]; exact Box.new w [.int .i64 de, .int .i64 qu, .int .i64 wi, .int .i64 ti, .int .i64 qa, .int .i64 bu, .int .i64 le, .int .i64 pb, .int .i64 pc, .int .i64 pj, .int .i64 pt] 45)
  have HL : Hid (Below w.heap.size w W0) := Lib.hid (by rw [hW0]; exact bOne _ _)
  have HWE := Lib.hid hW0
  have HI := Lib.hid hI
  have HS := Lib.hid hS
  clear hW0 hI hS
  go_enter Try.func6, Try.ntmps6
  go_upto_region 1 with fail
  rw [← HWE.out]
  clear HWE
  go_wp2_with (first | (refine wpList_load_box rfl _ 45 rfl rfl HA.out _ Try.underlying45 sizeLCfg ?_) | fail)
  refine (toConfig_any de qu wi ti qa bu le pb pc pj pt _).mono ?_
  rintro e w1 ⟨rfl, hb⟩
  replace HA := Lib.hid (HA.out.below hb)
  replace HL := Lib.hid (low_after HL.out hb)
  clear hb
  go_wp2_with fail
  refine (HS.out _).mono ?_
  rintro e w2 ⟨⟨ka0, kc0, fa0, fc0, rfl, hk, hf⟩, hb⟩
  replace HA := Lib.hid (HA.out.below hb)
  replace HL := Lib.hid (low_after HL.out hb)
  have HG0 := Lib.hid (gis_new hn hk hf)
  clear hb hk hf
  go_upto_region 2 with (first | (refine wpList_store_box rfl _ _ 33 rfl rfl [.int .i64 y0, .int .i64 y1, .int .i64 y2, .int .i64 y3, .int .i64 y4, .int .i64 y5, .int .i64 y6, .int .i64 y7, .int .i64 y8, .int .i64 y9, .int .i64 y10, .int .i64 0, .int .i64 0, .slice none 0 0, .slice ka0 n kc0, .int .i64 0, .slice fa0 n fc0, .slice none 0 0, .int .i64 0, .int .i64 0, .int .i64 0] rfl (Box.new _ [.int .i64 0, .int .i64 0, .int .i64 0, .int .i64 0, .int .i64 0, .int .i64 0, .int .i64 0, .int .i64 0, .int .i64 0, .int .i64 0, .int .i64 0, .int .i64 0, .int .i64 0, .slice none 0 0, .slice none 0 0, .int .i64 0, .slice none 0 0, .slice none 0 0, .int .i64 0, .int .i64 0, .int .i64 0] 33) sizeGate rfl rfl ?_; intro V0 hXb hgV hlV; have HX0 := Lib.hid hXb; have HBV := Lib.hid (hlV w2.heap.size w2 (Nat.le_refl _) (bOne w2 _)); clear hXb hgV hlV) | fail)
  replace HA := Lib.hid (HA.out.below HBV.out)
  replace HL := Lib.hid (low_after HL.out HBV.out)
  replace HG0 := Lib.hid (HG0.out.here HBV.out)
  clear HBV
  obtain ⟨k3, hk3⟩ : ∃ k, k = w2.heap.size := ⟨_, rfl⟩
  rw [← hk3] at HX0 ⊢
  clear hk3
  go_wp2_with (first | (refine wpList_load_box rfl _ 45 rfl rfl HA.out _ Try.underlying45 sizeLCfg ?_) | fail)
  refine (toConfig_any de qu wi ti qa bu le pb pc pj pt _).mono ?_
  rintro e w3 ⟨rfl, hb⟩
  replace HA := Lib.hid (HA.out.below hb)
  replace HL := Lib.hid (low_after HL.out hb)
  replace HG0 := Lib.hid (HG0.out.here hb)
  replace HX0 := Lib.hid (HX0.out.below hb)
  clear hb
  go_wp2_with fail
  refine (HI.out _).mono ?_
  rintro e w4 ⟨⟨ka1, kc1, fa1, fc1, rfl, hk, hf⟩, hb⟩
  obtain ⟨B3, hB3⟩ : ∃ B, B = w3.heap.size := ⟨_, rfl⟩
  rw [← hB3] at hk hf
  have HA3 := Lib.hid (show w.heap.size < B3 by rw [hB3]; exact HA.out.lt)
  have HX3 := Lib.hid (show k3 < B3 by rw [hB3]; exact HX0.out.lt)
  have HB4 := Lib.hid (show B3 ≤ w4.heap.size by rw [hB3]; exact hb.size)
  replace HG0 := Lib.hid (show GIs B3 w4 none 0 ka0 n fa0 n none 0 [] (List.replicate n lk0) (List.replicate n 0) [] by rw [hB3]; exact HG0.out.below hb)
  replace HA := Lib.hid (HA.out.below hb)
  replace HL := Lib.hid (low_after HL.out hb)
  replace HX0 := Lib.hid (HX0.out.below hb)
  have HK := Lib.hid hk
  have HF := Lib.hid hf
  have HKl := Lib.hid (fun q (hq : (Value.slice ka1 n kc1).ownBlock = some q) => (World.ownsRow.lt hk q hq).2)
  have HFl := Lib.hid (fun q (hq : (Value.slice fa1 n fc1).ownBlock = some q) => (World.ownsRow.lt hf q hq).2)
  clear hb hk hf hB3
  go_upto_region 3 with (first | (refine wpList_store_box rfl _ _ 33 rfl rfl [.int .i64 y0, .int .i64 y1, .int .i64 y2, .int .i64 y3, .int .i64 y4, .int .i64 y5, .int .i64 y6, .int .i64 y7, .int .i64 y8, .int .i64 y9, .int .i64 y10, .int .i64 0, .int .i64 0, .slice none 0 0, .slice ka1 n kc1, .int .i64 0, .slice fa1 n fc1, .slice none 0 0, .int .i64 0, .int .i64 0, .int .i64 0] rfl (Box.new _ [.int .i64 0, .int .i64 0, .int .i64 0, .int .i64 0, .int .i64 0, .int .i64 0, .int .i64 0, .int .i64 0, .int .i64 0, .int .i64 0, .int .i64 0, .int .i64 0, .int .i64 0, .slice none 0 0, .slice none 0 0, .int .i64 0, .slice none 0 0, .slice none 0 0, .int .i64 0, .int .i64 0, .int .i64 0] 33) sizeGate rfl rfl ?_; intro V1 hXb hgV hlV; have HX1 := Lib.hid hXb; have HBV := Lib.hid (hlV w4.heap.size w4 (Nat.le_refl _) (bOne w4 _)); clear hXb hgV hlV) | fail)
  replace HG0 := Lib.hid (HG0.out.below (HBV.out.mono HB4.out))
  replace HB4 := Lib.hid (Nat.le_trans HB4.out (HBV.out).size)
  replace HA := Lib.hid (HA.out.below HBV.out)
  replace HX0 := Lib.hid (HX0.out.below HBV.out)
  replace HK := Lib.hid (HK.out.below HBV.out)
  replace HF := Lib.hid (Lnk.IOwn.below HF.out HBV.out)
  replace HL := Lib.hid (low_after HL.out HBV.out)
  clear HBV
  obtain ⟨k4, hk4⟩ : ∃ k, k = w4.heap.size := ⟨_, rfl⟩
  rw [← hk4] at HX1 HKl HFl ⊢
  clear hk4
  go_wp2_with (first | (refine wpList_load_box rfl _ 33 rfl rfl HX1.out _ Try.underlying33 sizeGate ?_) | (refine wpList_load_box rfl _ 33 rfl rfl HX0.out _ Try.underlying33 sizeGate ?_) | fail)
  refine (eqGate_same _ y0 y1 y2 y3 y4 y5 y6 y7 y8 y9 y10 0 0 none 0 0 ka1 n kc1 0 fa1 n fc1 none 0 0 0 0 0 none 0 ka0 kc0 fa0 fc0 none 0 [] (List.replicate n lk0) (List.replicate n 0) [] (gis_new hn (lis_rep HK.out) (Lnk.IOwn.isN HF.out)) (HG0.out.mono HB4.out) (by omega) (by omega)).mono ?_
  rintro e w5 ⟨rfl, hb⟩
  replace HG0 := Lib.hid (HG0.out.below (hb.mono HB4.out))
  replace HB4 := Lib.hid (Nat.le_trans HB4.out (hb).size)
  replace HA := Lib.hid (HA.out.below hb)
  replace HX0 := Lib.hid (HX0.out.below hb)
  replace HK := Lib.hid (HK.out.below hb)
  replace HX1 := Lib.hid (HX1.out.below hb)
  replace HF := Lib.hid (Lnk.IOwn.below HF.out hb)
  replace HL := Lib.hid (low_after HL.out hb)
  clear hb
  go_wp2_with (first | (refine wpList_load_box rfl _ 33 rfl rfl HX1.out _ Try.underlying33 sizeGate ?_) | fail)
  refine (markNew _ B3 n y0 y1 y2 y3 y4 y5 y6 y7 y8 y9 y10 ka1 kc1 fa1 fc1 _ _ hn HB4.out HK.out (fun r hr => by rw [List.eq_of_mem_replicate hr]; rfl) HF.out).mono ?_
  rintro e w6 ⟨rfl, hk, hf, hb, ho⟩
  replace HX1 := Lib.hid (ho.box HX1.out (fun e => by have := HKl.out _ e.symm; omega) (fun e => by have := HFl.out _ e.symm; omega))
  replace HX0 := Lib.hid (HX0.out.low hb HX3.out)
  replace HA := Lib.hid (HA.out.low hb HA3.out)
  replace HG0 := Lib.hid (HG0.out.below hb)
  replace HL := Lib.hid (HL.out.trans (hb.mono (Nat.le_of_lt HA3.out)))
  replace HB4 := Lib.hid (Nat.le_trans HB4.out hb.size)
  replace HK := Lib.hid hk
  replace HF := Lib.hid hf
  obtain ⟨N, hN⟩ : ∃ N : Int, N = 1 + 3 * (n : Int) + (n : Int) := ⟨_, rfl⟩
  rw [← hN]
  have hn0 : ¬ N < 0 := by omega
  have HN := Lib.hid hN
  clear hb ho hk hf hN
  go_wp2_with (first | (refine wpList_load_box rfl _ 33 rfl rfl HX1.out _ Try.underlying33 sizeGate ?_) | fail)
  refine (heldNew _ n y0 y1 y2 y3 y4 y5 y6 y7 y8 y9 y10 ka1 kc1 fa1 fc1 hn HK.out.isN (Lnk.IOwn.isN HF.out)).mono ?_
  rintro e w7 ⟨rfl, hb⟩
  rw [← HN.out]
  replace HG0 := Lib.hid (HG0.out.below (hb.mono HB4.out))
  replace HB4 := Lib.hid (Nat.le_trans HB4.out (hb).size)
  replace HA := Lib.hid (HA.out.below hb)
  replace HX0 := Lib.hid (HX0.out.below hb)
  replace HK := Lib.hid (HK.out.below hb)
  replace HX1 := Lib.hid (HX1.out.below hb)
  replace HF := Lib.hid (Lnk.IOwn.below HF.out hb)
  replace HL := Lib.hid (low_after HL.out hb)
  clear hb
  go_wp2_with (first | (refine wpList_load_box rfl _ 45 rfl rfl HA.out _ Try.underlying45 sizeLCfg ?_) | fail)
  refine (toConfig_any de qu wi ti qa bu le pb pc pj pt _).mono ?_
  rintro e w8 ⟨rfl, hb⟩
  replace HG0 := Lib.hid (HG0.out.below (hb.mono HB4.out))
  replace HB4 := Lib.hid (Nat.le_trans HB4.out (hb).size)
  replace HA := Lib.hid (HA.out.below hb)
  replace HX0 := Lib.hid (HX0.out.below hb)
  replace HK := Lib.hid (HK.out.below hb)
  replace HX1 := Lib.hid (HX1.out.below hb)
  replace HF := Lib.hid (Lnk.IOwn.below HF.out hb)
  replace HL := Lib.hid (low_after HL.out hb)
  clear hb
  go_wp2_with fail
  refine (HI.out _).mono ?_
  rintro e w9 ⟨⟨ka2, kc2, fa2, fc2, rfl, hk, hf⟩, hb⟩
  have HG2 := Lib.hid (gis_new hn (lis_rep hk) (Lnk.IOwn.isN hf))
  replace HG0 := Lib.hid (HG0.out.below (hb.mono HB4.out))
  replace HB4 := Lib.hid (Nat.le_trans HB4.out (hb).size)
  replace HA := Lib.hid (HA.out.below hb)
  replace HX0 := Lib.hid (HX0.out.below hb)
  replace HK := Lib.hid (HK.out.below hb)
  replace HX1 := Lib.hid (HX1.out.below hb)
  replace HF := Lib.hid (Lnk.IOwn.below HF.out hb)
  replace HL := Lib.hid (low_after HL.out hb)
  clear hb hk hf
  go_upto_region 14 with (first | (refine wpList_store_box rfl _ _ 33 rfl rfl [.int .i64 y0, .int .i64 y1, .int .i64 y2, .int .i64 y3, .int .i64 y4, .int .i64 y5, .int .i64 y6, .int .i64 y7, .int .i64 y8, .int .i64 y9, .int .i64 y10, .int .i64 0, .int .i64 0, .slice none 0 0, .slice ka2 n kc2, .int .i64 0, .slice fa2 n fc2, .slice none 0 0, .int .i64 0, .int .i64 0, .int .i64 0] rfl (Box.new _ [.int .i64 0, .int .i64 0, .int .i64 0, .int .i64 0, .int .i64 0, .int .i64 0, .int .i64 0, .int .i64 0, .int .i64 0, .int .i64 0, .int .i64 0, .int .i64 0, .int .i64 0, .slice none 0 0, .slice none 0 0, .int .i64 0, .slice none 0 0, .slice none 0 0, .int .i64 0, .int .i64 0, .int .i64 0] 33) sizeGate rfl rfl ?_; intro V2 hXb hgV hlV; have HX2 := Lib.hid hXb; have HBV := Lib.hid (hlV w9.heap.size w9 (Nat.le_refl _) (bOne w9 _)); clear hXb hgV hlV) | fail)
  replace HG0 := Lib.hid (HG0.out.below (HBV.out.mono HB4.out))
  replace HB4 := Lib.hid (Nat.le_trans HB4.out (HBV.out).size)
  replace HA := Lib.hid (HA.out.below HBV.out)
  replace HX0 := Lib.hid (HX0.out.below HBV.out)
  replace HK := Lib.hid (HK.out.below HBV.out)
  replace HX1 := Lib.hid (HX1.out.below HBV.out)
  replace HF := Lib.hid (Lnk.IOwn.below HF.out HBV.out)
  replace HL := Lib.hid (low_after HL.out HBV.out)
  replace HG2 := Lib.hid (HG2.out.here HBV.out)
  clear HBV
  obtain ⟨k7, hk7⟩ : ∃ k, k = w9.heap.size := ⟨_, rfl⟩
  rw [← hk7] at HX2 ⊢
  clear hk7
  go_wp2_with (first | (refine wpList_load_box rfl _ 33 rfl rfl HX2.out _ Try.underlying33 sizeGate ?_) | (refine wpList_load_box rfl _ 33 rfl rfl HX0.out _ Try.underlying33 sizeGate ?_) | fail)
  refine (eqGate_same _ y0 y1 y2 y3 y4 y5 y6 y7 y8 y9 y10 0 0 none 0 0 ka2 n kc2 0 fa2 n fc2 none 0 0 0 0 0 none 0 ka0 kc0 fa0 fc0 none 0 [] (List.replicate n lk0) (List.replicate n 0) [] HG2.out (HG0.out.mono HB4.out) (by omega) (by omega)).mono ?_
  rintro e w10 ⟨rfl, hb⟩
  replace HG0 := Lib.hid (HG0.out.below (hb.mono HB4.out))
  replace HB4 := Lib.hid (Nat.le_trans HB4.out (hb).size)
  replace HA := Lib.hid (HA.out.below hb)
  replace HX0 := Lib.hid (HX0.out.below hb)
  replace HK := Lib.hid (HK.out.below hb)
  replace HX1 := Lib.hid (HX1.out.below hb)
  replace HF := Lib.hid (Lnk.IOwn.below HF.out hb)
  replace HL := Lib.hid (low_after HL.out hb)
  clear hb
  go_wp2_with (first | (refine wpList_load_box rfl _ 33 rfl rfl HX1.out _ Try.underlying33 sizeGate ?_) | fail)
  refine (heldNew _ n y0 y1 y2 y3 y4 y5 y6 y7 y8 y9 y10 ka1 kc1 fa1 fc1 hn HK.out.isN (Lnk.IOwn.isN HF.out)).mono ?_
  rintro e w11 ⟨rfl, hb⟩
  rw [← HN.out]
  replace HL := Lib.hid (low_after HL.out hb)
  clear hb
  go_wp2_with fail
  go_ret
  exact ⟨rfl, HL.out⟩


theorem exactNewGate_walk (w : World) (de qu wi ti qa bu le pb pc pj pt : Int) :
    Calls Try.prog 6 #[.agg #[.int .i64 de, .int .i64 qu, .int .i64 wi, .int .i64 ti, .int .i64 qa, .int .i64 bu, .int .i64 le, .int .i64 pb, .int .i64 pc, .int .i64 pj, .int .i64 pt]] w fun e w' => e = .returned (.bool true) ∧ Below w.heap.size w w' := by
  cases h : cfgB de qu wi ti qa bu le pb pc pj pt with
  | false =>
    refine exactNew_core w de qu wi ti qa bu le pb pc pj pt 0 0 0 0 0 0 0 0 0 0 0 0 (by omega) (fun w => ?_) (fun w => ?_)
    · exact (implNew_no w de qu wi ti qa bu le pb pc pj pt h).mono fun e w' ⟨he, hb⟩ => ⟨⟨none, 0, none, 0, he, ROwn.nil _ _ _, Lnk.IOwn.nil _ _⟩, hb⟩
    · exact (specNew_no w de qu wi ti qa bu le pb pc pj pt h).mono fun e w' ⟨he, hb⟩ => ⟨⟨none, 0, none, 0, he, LIs.nil _ _ _, iis_nil _ _ _⟩, hb⟩
  | true =>
    have hde : 1 ≤ de ∧ de ≤ 6 := by
      have := of_decide_eq_true h
      unfold CfgOk at this
      omega
    obtain ⟨n, rfl⟩ : ∃ n : Nat, de = (n : Int) := ⟨de.toNat, by omega⟩
    refine exactNew_core w (n : Int) qu wi ti qa bu le pb pc pj pt n (n : Int) qu wi ti qa bu le pb pc pj pt (by omega) (fun w => ?_) (fun w => ?_)
    · exact (implNew_yes w n qu wi ti qa bu le pb pc pj pt (by omega) h).mono fun e w' ⟨⟨gk, gf, he, hk, hf⟩, hb⟩ => ⟨⟨some ⟨gk, 0, none⟩, n, some ⟨gf, 0, none⟩, n, he, hk, hf⟩, hb⟩
    · exact specNew_yes w n qu wi ti qa bu le pb pc pj pt (by omega) h
end Go.Proofs.Ytecfomaapomncaa.Gat
