/-
  The walk of the law FnExactReceive.
-/
import Derived.Test.YtkndpkingmemoaaGreatDoorMgo
import Derived.Test.YtkndpkingmemoaaGreatDoorMgl
import Derived.Test.YtkndpkingmemoaaGreatDoorMgr
import Derived.Test.YtkndpkingmemoaaGreatDoorMgs
namespace Go.Proofs.YtkndpkingmemoaaGreatDoor.Gat
open Go.RowKit
open Lnk (bOne bAfter IOwn IIs YOwn YIs Y below_keep below_drew' bcell low_after low_alloc grown_of_below mrkY mrkI)
set_option linter.unusedVariables false
set_option linter.unusedSimpArgs false

theorem sizeLGate_Receive : (Tryz.prog.info? 58).map (·.size) = some 21 := by kernel_rfl

set_option maxRecDepth 100000 in
set_option maxHeartbeats 16000000 in
theorem exactReceive_core (w : World) (de qu wi ti qa bu le pb pc pj pt nw la : Int) (ea : Option Addr) (en ec : Nat) (ka : Option Addr) (kn kc : Nat) (tu : Int) (fa : Option Addr) (fn fc : Nat) (ra : Option Addr) (rn rc : Nat) (tk ac dr : Int) (E : List Ev) (K : List Lk) (F R : List Int) (bs : ByteArray) (la1 tk1 ac1 dr1 : Int) (E1 : List Ev) (K1 : List Lk) (R1 : List Int) (y1 y2 : Int) (h : GIs w.heap.size w ea en ka kn fa fn ra rn E K F R)
    (hI : ∀ (w : World) (ea : Option Addr) (ec : Nat) (ka : Option Addr) (kc : Nat) (fa : Option Addr) (fc : Nat) (ra : Option Addr) (rc : Nat), GIs w.heap.size w ea E.length ka K.length fa F.length ra R.length E K F R → Small E.length K.length F.length R.length K → bs.size ≤ 1048576 → ErrT w → Calls Tryz.prog 17 #[.agg #[.int .i64 de, .int .i64 qu, .int .i64 wi, .int .i64 ti, .int .i64 qa, .int .i64 bu, .int .i64 le, .int .i64 pb, .int .i64 pc, .int .i64 pj, .int .i64 pt, .int .i64 nw, .int .i64 la, .slice ea E.length ec, .slice ka K.length kc, .int .i64 tu, .slice fa F.length fc, .slice ra R.length rc, .int .i64 tk, .int .i64 ac, .int .i64 dr], .string bs] w fun e w' => GEnd2 w w' de qu wi ti qa bu le pb pc pj pt nw la1 tu tk1 ac1 dr1 E1 K1 F R1 y1 y2 e)
    (hS : ∀ (w : World) (ea : Option Addr) (ec : Nat) (ka : Option Addr) (kc : Nat) (fa : Option Addr) (fc : Nat) (ra : Option Addr) (rc : Nat), GIs w.heap.size w ea E.length ka K.length fa F.length ra R.length E K F R → Small E.length K.length F.length R.length K → bs.size ≤ 1048576 → Calls Tryz.prog 18 #[.agg #[.int .i64 de, .int .i64 qu, .int .i64 wi, .int .i64 ti, .int .i64 qa, .int .i64 bu, .int .i64 le, .int .i64 pb, .int .i64 pc, .int .i64 pj, .int .i64 pt, .int .i64 nw, .int .i64 la, .slice ea E.length ec, .slice ka K.length kc, .int .i64 tu, .slice fa F.length fc, .slice ra R.length rc, .int .i64 tk, .int .i64 ac, .int .i64 dr], .string bs] w fun e w' => GEnd2 w w' de qu wi ti qa bu le pb pc pj pt nw la1 tu tk1 ac1 dr1 E1 K1 F R1 y1 y2 e)
    (hsm : Small E.length K.length F.length R.length K → Small E1.length K1.length F.length R1.length K1) (hg : ErrT w) :
    Calls Tryz.prog 7 #[.agg #[.int .i64 de, .int .i64 qu, .int .i64 wi, .int .i64 ti, .int .i64 qa, .int .i64 bu, .int .i64 le, .int .i64 pb, .int .i64 pc, .int .i64 pj, .int .i64 pt, .int .i64 nw, .int .i64 la, .slice ea en ec, .slice ka kn kc, .int .i64 tu, .slice fa fn fc, .slice ra rn rc, .int .i64 tk, .int .i64 ac, .int .i64 dr], .string bs] w fun e w' => e = .returned (.bool true) ∧ Below w.heap.size w w' := by
  obtain rfl : E.length = en := h.ev.row.hlen
  obtain rfl : K.length = kn := h.lk.hlen
  obtain rfl : F.length = fn := h.lf.hlen
  obtain rfl : R.length = rn := h.lt.hlen
  obtain ⟨W0, hW0⟩ : ∃ W, W = w.alloc (.cells #[.int .i64 de, .int .i64 qu, .int .i64 wi, .int .i64 ti, .int .i64 qa, .int .i64 bu, .int .i64 le, .int .i64 pb, .int .i64 pc, .int .i64 pj, .int .i64 pt, .int .i64 nw, .int .i64 la, .slice ea E.length ec, .slice ka K.length kc, .int .i64 tu, .slice fa F.length fc, .slice ra R.length rc, .int .i64 tk, .int .i64 ac, .int .i64 dr] 58) := ⟨_, rfl⟩
  have HA : Hid (Box W0 w.heap.size 58 [.int .i64 de, .int .i64 qu, .int .i64 wi, .int .i64 ti, .int .i64 qa, .int .i64 bu, .int .i64 le, .int .i64 pb, .int .i64 pc, .int .i64 pj, .int .i64 pt, .int .i64 nw, .int .i64 la, .slice ea E.length ec, .slice ka K.length kc, .int .i64 tu, .slice fa F.length fc, .slice ra R.length rc, .int .i64 tk, .int .i64 ac, .int .i64 dr]) := Lib.hid (by rw [hW0]; exact Box.new w [.int .i64 de, .int .i64 qu, .int .i64 wi, .int .i64 ti, .int .i64 qa, .int .i64 bu, .int .i64 le, .int .i64 pb, .int .i64 pc, .int .i64 pj, .int .i64 pt, .int .i64 nw, .int .i64 la, .slice ea E.length ec, .slice ka K.length kc, .int .i64 tu, .slice fa F.length fc, .slice ra R.length rc, .int .i64 tk, .int .i64 ac, .int .i64 dr] 58)
  have HL : Hid (Below w.heap.size w W0) := Lib.hid (by rw [hW0]; exact bOne _ _)
  have HWE := Lib.hid hW0
  have HI := Lib.hid hI
  have HS := Lib.hid hS
  have HSM := Lib.hid hsm
  have HG := Lib.hid h
  have hz0 : 0 < w.heap.size := World.block_lt_of_cell? _ _ hg
  have HZ0 := Lib.hid hz0
  have HEG := Lib.hid (show ErrT W0 from (HL.out.cell (p := ⟨0, 0, none⟩) hz0).trans hg)
  clear hW0 hI hS hsm h hg hz0
  go_enter Tryz.func7, Tryz.ntmps7
  go_upto_region 1 with fail
  rw [← HWE.out]
  clear HWE
  cases hbl : decide ((1048576 : Int) < (bs.size : Int)) with
  | true =>
    go_wp2_with fail
    go_ret
    exact ⟨rfl, HL.out⟩
  | false =>
  have HBL := Lib.hid (show bs.size ≤ 1048576 by have := of_decide_eq_false hbl; omega)
  go_upto_region 5 with (first | (refine wpList_load_box rfl _ 58 rfl rfl HA.out _ Tryz.underlying58 sizeLGate_Receive ?_) | fail | (go_at_call 25; refine (szGate_any _ de qu wi ti qa bu le pb pc pj pt nw la ea E.length ec ka K.length kc tu fa F.length fc ra R.length rc tk ac dr E K F R (HG.out.here HL.out)).mono ?_; rintro e w1 ⟨⟨z, rfl, hz⟩, hb⟩))
  replace HA := Lib.hid (HA.out.below hb)
  replace HL := Lib.hid (low_after HL.out hb)
  replace HEG := Lib.hid (HEG.out.below hb)
  clear hb
  rcases hz with rfl | ⟨hz, _, hsmall⟩
  · go_wp2_with fail
    go_ret
    exact ⟨rfl, HL.out⟩
  have hzn : ¬ z < 0 := by omega
  have HSA := Lib.hid hsmall
  have HS1 := Lib.hid (HSM.out hsmall)
  clear hsmall hz HSM
  go_wp2_with (first | (refine wpList_load_box rfl _ 58 rfl rfl HA.out _ Tryz.underlying58 sizeLGate_Receive ?_) | fail)
  refine (toGateO_any _ de qu wi ti qa bu le pb pc pj pt nw la ea E.length ec ka K.length kc tu fa F.length fc ra R.length rc tk ac dr E K F R (HG.out.here HL.out) HSA.out).mono ?_
  rintro e w2 ⟨⟨ea4, ec4, ka4, kc4, fa4, fc4, ra4, rc4, vs4, rfl, hG⟩, hb⟩
  replace HA := Lib.hid (HA.out.below hb)
  replace HL := Lib.hid (low_after HL.out hb)
  replace HEG := Lib.hid (HEG.out.below hb)
  have HGx := Lib.hid hG.is
  clear hb hG
  go_wp2_with fail
  refine (HS.out _ ea4 ec4 ka4 kc4 fa4 fc4 ra4 rc4 HGx.out HSA.out HBL.out).mono ?_
  rintro e w3 ⟨⟨ea0, ec0, ka0, kc0, fa0, fc0, ra0, rc0, vs0, rfl, hG⟩, hb⟩
  replace HA := Lib.hid (HA.out.below hb)
  replace HL := Lib.hid (low_after HL.out hb)
  replace HEG := Lib.hid (HEG.out.below hb)
  have HG0 := Lib.hid hG.is
  clear hb hG HGx HS
  go_upto_region 8 with (first | (refine wpList_store_box rfl _ _ 32 rfl rfl [.int .i64 de, .int .i64 qu, .int .i64 wi, .int .i64 ti, .int .i64 qa, .int .i64 bu, .int .i64 le, .int .i64 pb, .int .i64 pc, .int .i64 pj, .int .i64 pt, .int .i64 nw, .int .i64 la1, .slice ea0 E1.length ec0, .slice ka0 K1.length kc0, .int .i64 tu, .slice fa0 F.length fc0, .slice ra0 R1.length rc0, .int .i64 tk1, .int .i64 ac1, .int .i64 dr1] rfl (Box.new _ [.int .i64 0, .int .i64 0, .int .i64 0, .int .i64 0, .int .i64 0, .int .i64 0, .int .i64 0, .int .i64 0, .int .i64 0, .int .i64 0, .int .i64 0, .int .i64 0, .int .i64 0, .slice none 0 0, .slice none 0 0, .int .i64 0, .slice none 0 0, .slice none 0 0, .int .i64 0, .int .i64 0, .int .i64 0] 32) sizeGate rfl rfl ?_; intro V0 hXb hgV hlV; have HX0 := Lib.hid hXb; have HBV := Lib.hid (hlV w3.heap.size w3 (Nat.le_refl _) (bOne w3 _)); clear hXb hgV hlV) | fail)
  replace HG0 := Lib.hid (HG0.out.here HBV.out)
  replace HA := Lib.hid (HA.out.below HBV.out)
  replace HL := Lib.hid (low_after HL.out HBV.out)
  replace HEG := Lib.hid (HEG.out.below HBV.out)
  clear HBV
  obtain ⟨k6, hk6⟩ : ∃ k, k = w3.heap.size := ⟨_, rfl⟩
  rw [← hk6] at HX0 ⊢
  clear hk6
  go_wp2_with (first | (refine wpList_load_box rfl _ 58 rfl rfl HA.out _ Tryz.underlying58 sizeLGate_Receive ?_) | fail)
  obtain ⟨B3, hB3⟩ : ∃ B, B = V0.heap.size := ⟨_, rfl⟩
  replace HG0 := Lib.hid (show GIs B3 V0 ea0 E1.length ka0 K1.length fa0 F.length ra0 R1.length E1 K1 F R1 by rw [hB3]; exact HG0.out)
  have HB := Lib.hid (Nat.le_of_eq hB3)
  have HLB := Lib.hid (show w.heap.size ≤ B3 by rw [hB3]; exact HL.out.size)
  have HBE := Lib.hid hB3
  clear hB3
  refine (toGateO_any _ de qu wi ti qa bu le pb pc pj pt nw la ea E.length ec ka K.length kc tu fa F.length fc ra R.length rc tk ac dr E K F R (HG.out.here HL.out) HSA.out).mono ?_
  rintro e w4 ⟨⟨ea1, ec1, ka1, kc1, fa1, fc1, ra1, rc1, vs1, rfl, hG⟩, hb⟩
  replace HA := Lib.hid (HA.out.below hb)
  replace HX0 := Lib.hid (HX0.out.below hb)
  replace HL := Lib.hid (low_after HL.out hb)
  replace HEG := Lib.hid (HEG.out.below hb)
  replace HG0 := Lib.hid (HG0.out.below (hb.mono HB.out))
  replace HB := Lib.hid (Nat.le_trans HB.out hb.size)
  have HR := Lib.hid (show Rws B3 w4 (gRows (.slice ea1 E.length ec1) (.slice ka1 K.length kc1) (.slice fa1 F.length fc1) (.slice ra1 R.length rc1) vs1 E K F R) by rw [HBE.out]; exact hG.rows)
  have HV1 := Lib.hid hG.len
  have HD1 := Lib.hid hG.body
  clear hb hG HBE
  go_upto_region 9 with (first | (refine wpList_store_box rfl _ _ 32 rfl rfl [.int .i64 de, .int .i64 qu, .int .i64 wi, .int .i64 ti, .int .i64 qa, .int .i64 bu, .int .i64 le, .int .i64 pb, .int .i64 pc, .int .i64 pj, .int .i64 pt, .int .i64 nw, .int .i64 la, .slice ea1 E.length ec1, .slice ka1 K.length kc1, .int .i64 tu, .slice fa1 F.length fc1, .slice ra1 R.length rc1, .int .i64 tk, .int .i64 ac, .int .i64 dr] rfl (Box.new _ [.int .i64 0, .int .i64 0, .int .i64 0, .int .i64 0, .int .i64 0, .int .i64 0, .int .i64 0, .int .i64 0, .int .i64 0, .int .i64 0, .int .i64 0, .int .i64 0, .int .i64 0, .slice none 0 0, .slice none 0 0, .int .i64 0, .slice none 0 0, .slice none 0 0, .int .i64 0, .int .i64 0, .int .i64 0] 32) sizeGate rfl rfl ?_; intro V1 hXb hgV hlV; have HX1 := Lib.hid hXb; have HBV := Lib.hid (hlV w4.heap.size w4 (Nat.le_refl _) (bOne w4 _)); clear hXb hgV hlV) | fail)
  replace HA := Lib.hid (HA.out.below HBV.out)
  replace HX0 := Lib.hid (HX0.out.below HBV.out)
  replace HL := Lib.hid (low_after HL.out HBV.out)
  replace HEG := Lib.hid (HEG.out.below HBV.out)
  replace HG0 := Lib.hid (HG0.out.below (HBV.out.mono HB.out))
  replace HB := Lib.hid (Nat.le_trans HB.out HBV.out.size)
  replace HR := Lib.hid (HR.out.below HBV.out)
  clear HBV
  obtain ⟨k7, hk7⟩ : ∃ k, k = w4.heap.size := ⟨_, rfl⟩
  rw [← hk7] at HX1 ⊢
  clear hk7
  go_wp2_with (first | (refine wpList_load_box rfl _ 32 rfl rfl HX1.out _ Tryz.underlying32 sizeGate ?_) | fail)
  have HGx := Lib.hid (show GOwn B3 V1 (.slice ea1 E.length ec1) (.slice ka1 K.length kc1) (.slice fa1 F.length fc1) (.slice ra1 R.length rc1) vs1 E K F R from ⟨HR.out, HV1.out, HD1.out⟩).is
  refine (HI.out _ ea1 ec1 ka1 kc1 fa1 fc1 ra1 rc1 HGx HSA.out HBL.out HEG.out).mono ?_
  rintro e w5 ⟨⟨ea2, ec2, ka2, kc2, fa2, fc2, ra2, rc2, vs2, rfl, hG⟩, hb⟩
  have hrr := HR.out.app hb hG.rows HB.out
  have HV2 := Lib.hid hG.len
  have HD2 := Lib.hid hG.body
  replace HA := Lib.hid (HA.out.below hb)
  replace HX0 := Lib.hid (HX0.out.below hb)
  replace HX1 := Lib.hid (HX1.out.below hb)
  replace HL := Lib.hid (low_after HL.out hb)
  replace HEG := Lib.hid (HEG.out.below hb)
  replace HG0 := Lib.hid (HG0.out.below (hb.mono HB.out))
  replace HB := Lib.hid (Nat.le_trans HB.out hb.size)
  replace HR := Lib.hid (show Rws B3 w5 (gRows (.slice ea1 E.length ec1) (.slice ka1 K.length kc1) (.slice fa1 F.length fc1) (.slice ra1 R.length rc1) vs1 E K F R ++ gRows (.slice ea2 E1.length ec2) (.slice ka2 K1.length kc2) (.slice fa2 F.length fc2) (.slice ra2 R1.length rc2) vs2 E1 K1 F R1) from hrr.perm List.perm_append_comm)
  clear hb hG hrr HGx
  go_upto_region 10 with (first | (refine wpList_store_box rfl _ _ 32 rfl rfl [.int .i64 de, .int .i64 qu, .int .i64 wi, .int .i64 ti, .int .i64 qa, .int .i64 bu, .int .i64 le, .int .i64 pb, .int .i64 pc, .int .i64 pj, .int .i64 pt, .int .i64 nw, .int .i64 la1, .slice ea2 E1.length ec2, .slice ka2 K1.length kc2, .int .i64 tu, .slice fa2 F.length fc2, .slice ra2 R1.length rc2, .int .i64 tk1, .int .i64 ac1, .int .i64 dr1] rfl (Box.new _ [.int .i64 0, .int .i64 0, .int .i64 0, .int .i64 0, .int .i64 0, .int .i64 0, .int .i64 0, .int .i64 0, .int .i64 0, .int .i64 0, .int .i64 0, .int .i64 0, .int .i64 0, .slice none 0 0, .slice none 0 0, .int .i64 0, .slice none 0 0, .slice none 0 0, .int .i64 0, .int .i64 0, .int .i64 0] 32) sizeGate rfl rfl ?_; intro V2 hXb hgV hlV; have HX2 := Lib.hid hXb; have HBV := Lib.hid (hlV w5.heap.size w5 (Nat.le_refl _) (bOne w5 _)); clear hXb hgV hlV) | fail)
  replace HA := Lib.hid (HA.out.below HBV.out)
  replace HX0 := Lib.hid (HX0.out.below HBV.out)
  replace HX1 := Lib.hid (HX1.out.below HBV.out)
  replace HL := Lib.hid (low_after HL.out HBV.out)
  replace HEG := Lib.hid (HEG.out.below HBV.out)
  replace HG0 := Lib.hid (HG0.out.below (HBV.out.mono HB.out))
  replace HB := Lib.hid (Nat.le_trans HB.out HBV.out.size)
  replace HR := Lib.hid (HR.out.below HBV.out)
  clear HBV
  obtain ⟨k8, hk8⟩ : ∃ k, k = w5.heap.size := ⟨_, rfl⟩
  rw [← hk8] at HX2 ⊢
  clear hk8
  go_wp2_with (first | (refine wpList_load_box rfl _ 32 rfl rfl HX2.out _ Tryz.underlying32 sizeGate ?_) | (refine wpList_load_box rfl _ 32 rfl rfl HX0.out _ Tryz.underlying32 sizeGate ?_) | fail)
  refine (eqGate_same _ de qu wi ti qa bu le pb pc pj pt nw la1 ea2 E1.length ec2 ka2 K1.length kc2 tu fa2 F.length fc2 ra2 R1.length rc2 tk1 ac1 dr1 ea0 ec0 ka0 kc0 fa0 fc0 ra0 rc0 E1 K1 F R1 (show GOwn B3 _ (.slice ea2 E1.length ec2) (.slice ka2 K1.length kc2) (.slice fa2 F.length fc2) (.slice ra2 R1.length rc2) vs2 E1 K1 F R1 from ⟨HR.out.sub (List.sublist_append_right _ _), HV2.out, HD2.out⟩).is (HG0.out.mono HB.out) (by have := HS1.out.2.2.2.1; omega) (by have := HS1.out.2.2.2.2; omega)).mono ?_
  rintro e w6 ⟨rfl, hb⟩
  replace HA := Lib.hid (HA.out.below hb)
  replace HX0 := Lib.hid (HX0.out.below hb)
  replace HX1 := Lib.hid (HX1.out.below hb)
  replace HX2 := Lib.hid (HX2.out.below hb)
  replace HL := Lib.hid (low_after HL.out hb)
  replace HEG := Lib.hid (HEG.out.below hb)
  replace HG0 := Lib.hid (HG0.out.below (hb.mono HB.out))
  replace HB := Lib.hid (Nat.le_trans HB.out hb.size)
  replace HR := Lib.hid (HR.out.below hb)
  clear hb
  go_upto_region 12 with fail
  have hd : Below w6.heap.size w6 w6.drew := below_drew' (Below.refl _ _)
  replace HA := Lib.hid (HA.out.below hd)
  replace HX0 := Lib.hid (HX0.out.below hd)
  replace HX1 := Lib.hid (HX1.out.below hd)
  replace HX2 := Lib.hid (HX2.out.below hd)
  replace HL := Lib.hid (low_after HL.out hd)
  replace HEG := Lib.hid (HEG.out.below hd)
  replace HG0 := Lib.hid (HG0.out.below (hd.mono HB.out))
  replace HB := Lib.hid (Nat.le_trans HB.out hd.size)
  replace HR := Lib.hid (HR.out.below hd)
  clear hd
  refine wp_region_held_drew (S := fun w' => Box w' k7 32 [.int .i64 de, .int .i64 qu, .int .i64 wi, .int .i64 ti, .int .i64 qa, .int .i64 bu, .int .i64 le, .int .i64 pb, .int .i64 pc, .int .i64 pj, .int .i64 pt, .int .i64 nw, .int .i64 la, .slice ea1 E.length ec1, .slice ka1 K.length kc1, .int .i64 tu, .slice fa1 F.length fc1, .slice ra1 R.length rc1, .int .i64 tk, .int .i64 ac, .int .i64 dr] ∧ Box w' w.heap.size 58 [.int .i64 de, .int .i64 qu, .int .i64 wi, .int .i64 ti, .int .i64 qa, .int .i64 bu, .int .i64 le, .int .i64 pb, .int .i64 pc, .int .i64 pj, .int .i64 pt, .int .i64 nw, .int .i64 la, .slice ea E.length ec, .slice ka K.length kc, .int .i64 tu, .slice fa F.length fc, .slice ra R.length rc, .int .i64 tk, .int .i64 ac, .int .i64 dr]) (by kernel_rfl) ⟨HX1.out, HA.out⟩ (fun hHeld => ?_)
  refine wpAnyH_take (i := 0) (oi := { dst := some _, op := _, type := _, pos := _, after := _, guard := _ }) (v := ?_) rfl (by kernel_rfl) (by kernel_rfl) (by kernel_rfl) (fun _ _ _ h => h) ?_ (by with_reducible assumption) ?_
  rotate_left 1
  focus (refine Or.inl ⟨by rfl, ?_⟩; intro wq hSw; refine exec_load_box ?_ 32 ?_ ?_ hSw.1 _ Tryz.underlying32 sizeGate; rotate_left 1; rfl; rfl)
  try simp only [Act.put, List.setIfInBounds_toArray, List.set_cons_zero, List.set_cons_succ]

  refine wpAnyH_take (i := 1) (oi := { dst := some _, op := _, type := _, pos := _, after := _, guard := _ }) (v := ?_) rfl (by kernel_rfl) (by kernel_rfl) (by kernel_rfl) (fun _ _ _ h => h) ?_ (by with_reducible assumption) ?_
  rotate_left 1
  focus (refine Or.inl ⟨by rfl, ?_⟩; intro wq hSw; refine exec_load_box ?_ 58 ?_ ?_ hSw.2 _ Tryz.underlying58 sizeLGate_Receive; rotate_left 1; rfl; rfl)
  try simp only [Act.put, List.setIfInBounds_toArray, List.set_cons_zero, List.set_cons_succ]

  refine wpAnyH_ready (rs := [2]) (by kernel_rfl) (by simp) ?_
  refine AllReadyH.cons rfl (fun KA hKA => ?_) AllReadyH.nil
  go_simp

  refine (toGateO_any _ de qu wi ti qa bu le pb pc pj pt nw la ea E.length ec ka K.length kc tu fa F.length fc ra R.length rc tk ac dr E K F R (HG.out.here HL.out) HSA.out).mono ?_
  rintro e w7 ⟨⟨ea3, ec3, ka3, kc3, fa3, fc3, ra3, rc3, vs3, rfl, hG⟩, hb⟩
  replace HA := Lib.hid (HA.out.below hb)
  replace HX0 := Lib.hid (HX0.out.below hb)
  replace HX1 := Lib.hid (HX1.out.below hb)
  replace HX2 := Lib.hid (HX2.out.below hb)
  replace HL := Lib.hid (low_after HL.out hb)
  replace HEG := Lib.hid (HEG.out.below hb)
  replace HG0 := Lib.hid (HG0.out.below (hb.mono HB.out))
  replace HB := Lib.hid (Nat.le_trans HB.out hb.size)
  replace HR := Lib.hid (HR.out.below hb)
  have HGx := Lib.hid hG.is
  clear hb hG
  dsimp only
  refine hKA.out _ _ (⟨HX1.out, HA.out⟩) (fun hHeld => ?_)
  clear hKA
  try simp only [Act.put, List.setIfInBounds_toArray, List.set_cons_zero, List.set_cons_succ]

  refine wpAnyH_ready (rs := [3]) (by kernel_rfl) (by simp) ?_
  refine AllReadyH.cons rfl (fun KB hKB => ?_) AllReadyH.nil
  go_simp

  refine (eqGate_same _ de qu wi ti qa bu le pb pc pj pt nw la ea1 E.length ec1 ka1 K.length kc1 tu fa1 F.length fc1 ra1 R.length rc1 tk ac dr ea3 ec3 ka3 kc3 fa3 fc3 ra3 rc3 E K F R (show GOwn B3 _ (.slice ea1 E.length ec1) (.slice ka1 K.length kc1) (.slice fa1 F.length fc1) (.slice ra1 R.length rc1) vs1 E K F R from ⟨HR.out.sub (List.sublist_append_left _ _), HV1.out, HD1.out⟩).is HGx.out (by have := HSA.out.2.2.2.1; omega) (by have := HSA.out.2.2.2.2; omega)).mono ?_
  rintro e w8 ⟨rfl, hb⟩
  replace HA := Lib.hid (HA.out.below hb)
  replace HX0 := Lib.hid (HX0.out.below hb)
  replace HX1 := Lib.hid (HX1.out.below hb)
  replace HX2 := Lib.hid (HX2.out.below hb)
  replace HL := Lib.hid (low_after HL.out hb)
  replace HEG := Lib.hid (HEG.out.below hb)
  replace HG0 := Lib.hid (HG0.out.below (hb.mono HB.out))
  replace HB := Lib.hid (Nat.le_trans HB.out hb.size)
  replace HR := Lib.hid (HR.out.below hb)
  clear hb HGx
  dsimp only
  refine hKB.out _ _ (⟨HX1.out, HA.out⟩) (fun hHeld => ?_)
  clear hKB
  try simp only [Act.put, List.setIfInBounds_toArray, List.set_cons_zero, List.set_cons_succ]

  refine wpAnyH_take (i := 4) (oi := { dst := some _, op := _, type := _, pos := _, after := _, guard := _ }) (v := ?_) rfl (by kernel_rfl) (by kernel_rfl) (by kernel_rfl) (fun _ _ _ h => h) ?_ (by with_reducible assumption) ?_
  rotate_left 1
  focus (refine Or.inl ⟨by rfl, ?_⟩; intro wq hSw; go_simp; try with_reducible rfl)
  try simp only [Act.put, List.setIfInBounds_toArray, List.set_cons_zero, List.set_cons_succ]
  refine wpAnyH_done (by kernel_rfl) ?_ _

  go_wp2_with (first | (refine wpList_load_box rfl _ 32 rfl rfl HX1.out _ Tryz.underlying32 sizeGate ?_) | fail)
  refine (markGate_any _ B3 de qu wi ti qa bu le pb pc pj pt nw la ea1 E.length ec1 ka1 K.length kc1 tu fa1 F.length fc1 ra1 R.length rc1 tk ac dr vs1 E K F R _ HR.out HV1.out HB.out HSA.out).mono ?_
  rintro e w9 ⟨rfl, hr, hl, hk⟩
  replace HA := Lib.hid (hk.box HA.out rfl)
  replace HX0 := Lib.hid (hk.box HX0.out rfl)
  replace HX1 := Lib.hid (hk.box HX1.out rfl)
  replace HX2 := Lib.hid (hk.box HX2.out rfl)
  replace HL := Lib.hid (HL.out.trans (hl.mono HLB.out))
  replace HEG := Lib.hid (show ErrT _ from (hl.cell (p := ⟨0, 0, none⟩) (Nat.lt_of_lt_of_le HZ0.out HLB.out)).trans HEG.out)
  replace HG0 := Lib.hid (HG0.out.below hl)
  replace HB := Lib.hid (Nat.le_trans HB.out hl.size)
  replace HR := Lib.hid hr
  clear hr hl hk HX1
  obtain ⟨n0, hn0⟩ : ∃ n, n = mq4 E.length K F.length R.length := ⟨_, rfl⟩
  rw [← hn0]
  have hnn0 : ¬ n0 < 0 := by rw [hn0]; exact mq4_pos _ _ _ _
  have hnd0 : decide (n0 < 0) = false := by simpa using hnn0
  clear hn0
  go_wp2_with (first | (refine wpList_load_boxw (by kernel_rfl) _ 32 rfl rfl HX2.out _ Tryz.underlying32 sizeGate ?_) | (refine wpList_load_boxw (by kernel_rfl) _ 32 rfl rfl HX0.out _ Tryz.underlying32 sizeGate ?_) | fail)
  refine (eqGate_same _ de qu wi ti qa bu le pb pc pj pt nw la1 ea2 E1.length ec2 ka2 K1.length kc2 tu fa2 F.length fc2 ra2 R1.length rc2 tk1 ac1 dr1 ea0 ec0 ka0 kc0 fa0 fc0 ra0 rc0 E1 K1 F R1 (show GOwn B3 _ (.slice ea2 E1.length ec2) (.slice ka2 K1.length kc2) (.slice fa2 F.length fc2) (.slice ra2 R1.length rc2) vs2 E1 K1 F R1 from ⟨HR.out.sub (List.sublist_append_right _ _), HV2.out, HD2.out⟩).is (HG0.out.mono HB.out) (by have := HS1.out.2.2.2.1; omega) (by have := HS1.out.2.2.2.2; omega)).mono ?_
  rintro e w10 ⟨rfl, hb⟩
  replace HA := Lib.hid (HA.out.below hb)
  replace HX0 := Lib.hid (HX0.out.below hb)
  replace HX2 := Lib.hid (HX2.out.below hb)
  replace HL := Lib.hid (low_after HL.out hb)
  replace HEG := Lib.hid (HEG.out.below hb)
  replace HG0 := Lib.hid (HG0.out.below (hb.mono HB.out))
  replace HB := Lib.hid (Nat.le_trans HB.out hb.size)
  replace HR := Lib.hid (HR.out.below hb)
  clear hb
  replace HR := Lib.hid (HR.out.sub (List.sublist_append_right _ _))
  go_wp2_with (first | (refine wpList_load_box rfl _ 32 rfl rfl HX2.out _ Tryz.underlying32 sizeGate ?_) | fail)
  refine (markGate_any _ B3 de qu wi ti qa bu le pb pc pj pt nw la1 ea2 E1.length ec2 ka2 K1.length kc2 tu fa2 F.length fc2 ra2 R1.length rc2 tk1 ac1 dr1 vs2 E1 K1 F R1 [] (by rw [List.append_nil]; exact HR.out) HV2.out HB.out HS1.out).mono ?_
  rintro e w11 ⟨rfl, hr, hl, hk⟩
  rw [List.append_nil] at hr
  replace HA := Lib.hid (hk.box HA.out rfl)
  replace HX0 := Lib.hid (hk.box HX0.out rfl)
  replace HX2 := Lib.hid (hk.box HX2.out rfl)
  replace HL := Lib.hid (HL.out.trans (hl.mono HLB.out))
  replace HEG := Lib.hid (show ErrT _ from (hl.cell (p := ⟨0, 0, none⟩) (Nat.lt_of_lt_of_le HZ0.out HLB.out)).trans HEG.out)
  replace HG0 := Lib.hid (HG0.out.below hl)
  replace HB := Lib.hid (Nat.le_trans HB.out hl.size)
  replace HR := Lib.hid hr
  clear hr hl hk
  obtain ⟨n1, hn1⟩ : ∃ n, n = mq4 E1.length K1 F.length R1.length := ⟨_, rfl⟩
  rw [← hn1]
  have hnn1 : ¬ n1 < 0 := by rw [hn1]; exact mq4_pos _ _ _ _
  have HN1 := Lib.hid hn1
  clear hn1
  go_wp2_with (first | (refine wpList_load_box rfl _ 32 rfl rfl HX2.out _ Tryz.underlying32 sizeGate ?_) | fail)
  refine (heldGate_any _ B3 de qu wi ti qa bu le pb pc pj pt nw la1 ea2 E1.length ec2 ka2 K1.length kc2 tu fa2 F.length fc2 ra2 R1.length rc2 tk1 ac1 dr1 vs2 K1 HR.out HV2.out HB.out HS1.out rfl).mono ?_
  rintro e w12 ⟨rfl, hb⟩
  rw [← HN1.out]
  replace HA := Lib.hid (HA.out.below hb)
  replace HX0 := Lib.hid (HX0.out.below hb)
  replace HX2 := Lib.hid (HX2.out.below hb)
  replace HL := Lib.hid (low_after HL.out hb)
  replace HEG := Lib.hid (HEG.out.below hb)
  replace HG0 := Lib.hid (HG0.out.below (hb.mono HB.out))
  replace HB := Lib.hid (Nat.le_trans HB.out hb.size)
  replace HR := Lib.hid (HR.out.below hb)
  clear hb
  go_wp2_with (first | (refine wpList_load_box rfl _ 58 rfl rfl HA.out _ Tryz.underlying58 sizeLGate_Receive ?_) | fail)
  refine (toGateO_any _ de qu wi ti qa bu le pb pc pj pt nw la ea E.length ec ka K.length kc tu fa F.length fc ra R.length rc tk ac dr E K F R (HG.out.here HL.out) HSA.out).mono ?_
  rintro e w13 ⟨⟨ea5, ec5, ka5, kc5, fa5, fc5, ra5, rc5, vs5, rfl, hG⟩, hb⟩
  replace HA := Lib.hid (HA.out.below hb)
  replace HX0 := Lib.hid (HX0.out.below hb)
  replace HX2 := Lib.hid (HX2.out.below hb)
  replace HL := Lib.hid (low_after HL.out hb)
  replace HEG := Lib.hid (HEG.out.below hb)
  replace HG0 := Lib.hid (HG0.out.below (hb.mono HB.out))
  replace HB := Lib.hid (Nat.le_trans HB.out hb.size)
  replace HR := Lib.hid (HR.out.below hb)
  have HGx := Lib.hid hG.is
  clear hb hG
  go_wp2_with fail
  refine (HI.out _ ea5 ec5 ka5 kc5 fa5 fc5 ra5 rc5 HGx.out HSA.out HBL.out HEG.out).mono ?_
  rintro e w14 ⟨⟨ea6, ec6, ka6, kc6, fa6, fc6, ra6, rc6, vs6, rfl, hG⟩, hb⟩
  have HG6 := Lib.hid hG.is
  replace HA := Lib.hid (HA.out.below hb)
  replace HX0 := Lib.hid (HX0.out.below hb)
  replace HX2 := Lib.hid (HX2.out.below hb)
  replace HL := Lib.hid (low_after HL.out hb)
  replace HEG := Lib.hid (HEG.out.below hb)
  replace HG0 := Lib.hid (HG0.out.below (hb.mono HB.out))
  replace HB := Lib.hid (Nat.le_trans HB.out hb.size)
  replace HR := Lib.hid (HR.out.below hb)
  clear hb hG HGx
  go_upto_region 27 with (first | (refine wpList_store_box rfl _ _ 32 rfl rfl [.int .i64 de, .int .i64 qu, .int .i64 wi, .int .i64 ti, .int .i64 qa, .int .i64 bu, .int .i64 le, .int .i64 pb, .int .i64 pc, .int .i64 pj, .int .i64 pt, .int .i64 nw, .int .i64 la1, .slice ea6 E1.length ec6, .slice ka6 K1.length kc6, .int .i64 tu, .slice fa6 F.length fc6, .slice ra6 R1.length rc6, .int .i64 tk1, .int .i64 ac1, .int .i64 dr1] rfl (Box.new _ [.int .i64 0, .int .i64 0, .int .i64 0, .int .i64 0, .int .i64 0, .int .i64 0, .int .i64 0, .int .i64 0, .int .i64 0, .int .i64 0, .int .i64 0, .int .i64 0, .int .i64 0, .slice none 0 0, .slice none 0 0, .int .i64 0, .slice none 0 0, .slice none 0 0, .int .i64 0, .int .i64 0, .int .i64 0] 32) sizeGate rfl rfl ?_; intro V3 hXb hgV hlV; have HX3 := Lib.hid hXb; have HBV := Lib.hid (hlV w14.heap.size w14 (Nat.le_refl _) (bOne w14 _)); clear hXb hgV hlV) | fail)
  replace HG6 := Lib.hid (HG6.out.here HBV.out)
  replace HA := Lib.hid (HA.out.below HBV.out)
  replace HX0 := Lib.hid (HX0.out.below HBV.out)
  replace HX2 := Lib.hid (HX2.out.below HBV.out)
  replace HL := Lib.hid (low_after HL.out HBV.out)
  replace HEG := Lib.hid (HEG.out.below HBV.out)
  replace HG0 := Lib.hid (HG0.out.below (HBV.out.mono HB.out))
  replace HB := Lib.hid (Nat.le_trans HB.out HBV.out.size)
  replace HR := Lib.hid (HR.out.below HBV.out)
  clear HBV
  obtain ⟨k12, hk12⟩ : ∃ k, k = w14.heap.size := ⟨_, rfl⟩
  rw [← hk12] at HX3 ⊢
  clear hk12
  go_wp2_with (first | (refine wpList_load_box rfl _ 32 rfl rfl HX3.out _ Tryz.underlying32 sizeGate ?_) | (refine wpList_load_box rfl _ 32 rfl rfl HX0.out _ Tryz.underlying32 sizeGate ?_) | fail)
  refine (eqGate_same _ de qu wi ti qa bu le pb pc pj pt nw la1 ea6 E1.length ec6 ka6 K1.length kc6 tu fa6 F.length fc6 ra6 R1.length rc6 tk1 ac1 dr1 ea0 ec0 ka0 kc0 fa0 fc0 ra0 rc0 E1 K1 F R1 HG6.out (HG0.out.mono HB.out) (by have := HS1.out.2.2.2.1; omega) (by have := HS1.out.2.2.2.2; omega)).mono ?_
  rintro e w15 ⟨rfl, hb⟩
  replace HA := Lib.hid (HA.out.below hb)
  replace HX0 := Lib.hid (HX0.out.below hb)
  replace HX2 := Lib.hid (HX2.out.below hb)
  replace HL := Lib.hid (low_after HL.out hb)
  replace HEG := Lib.hid (HEG.out.below hb)
  replace HG0 := Lib.hid (HG0.out.below (hb.mono HB.out))
  replace HB := Lib.hid (Nat.le_trans HB.out hb.size)
  replace HR := Lib.hid (HR.out.below hb)
  clear hb HG6 HX3
  go_wp2_with (first | (refine wpList_load_box rfl _ 32 rfl rfl HX2.out _ Tryz.underlying32 sizeGate ?_) | fail)
  refine (heldGate_any _ B3 de qu wi ti qa bu le pb pc pj pt nw la1 ea2 E1.length ec2 ka2 K1.length kc2 tu fa2 F.length fc2 ra2 R1.length rc2 tk1 ac1 dr1 vs2 K1 HR.out HV2.out HB.out HS1.out rfl).mono ?_
  rintro e w16 ⟨rfl, hb⟩
  rw [← HN1.out]
  replace HA := Lib.hid (HA.out.below hb)
  replace HX0 := Lib.hid (HX0.out.below hb)
  replace HX2 := Lib.hid (HX2.out.below hb)
  replace HL := Lib.hid (low_after HL.out hb)
  replace HEG := Lib.hid (HEG.out.below hb)
  replace HG0 := Lib.hid (HG0.out.below (hb.mono HB.out))
  replace HB := Lib.hid (Nat.le_trans HB.out hb.size)
  replace HR := Lib.hid (HR.out.below hb)
  clear hb
  go_wp2_with fail
  go_ret
  exact ⟨rfl, HL.out⟩

end Go.Proofs.YtkndpkingmemoaaGreatDoor.Gat
