/-
  The walk of the law FnCodes.
-/
import Derived.Test.YtkndpkingmemoaaGreatDoorFcAm
import Derived.Test.YtkndpkingmemoaaGreatDoorMgx
namespace Go.Proofs.YtkndpkingmemoaaGreatDoor.Gat
open Go.RowKit Go.Proofs.YtkndpkingmemoaaGreatDoor.Kit Go.Proofs.YtkndpkingmemoaaGreatDoor.Draw
open Lnk (bOne bAfter IOwn IIs below_keep below_drew' bcell low_after low_alloc grown_of_below)
open Frm (gcode gK gD gE gS gI gB)
set_option linter.unusedVariables false
set_option linter.unusedSimpArgs false

theorem far_slice (wx : World) : (Instr.slice 9 (.string farS) none (some (.int .i64 10)) none).run Tryz.prog wx = .ok (.string (farS.extract 0 10)) wx :=
  by rw [run_slice_string_to_if wx 9 farS .i64 10 Tryz.underlying9, if_pos (by have := far_fact.1; omega)]; rfl

set_option maxRecDepth 100000 in
set_option maxHeartbeats 8000000 in
theorem fnCodes_walk (w : World) (a0 : Option Addr) (len0 cap0 : Nat) (zs : List Int) (hrow : IsRow .u8 w a0 len0 cap0 zs) (hg : ErrT w) :
    Calls Tryz.prog 5 #[.slice a0 len0 cap0] w fun e w' => e = .returned (.bool true) ∧ Below w.heap.size w w' := by
  have hcode := hrow.code
  have hle := hcode.le
  have HC := Lib.hid hcode
  have HLE := Lib.hid hle
  have HEG := Lib.hid hg
  clear hrow hcode hle hg
  go_enter Tryz.func5, Tryz.ntmps5
  by_cases hbig : (1048576 : Int) < (len0 : Int)
  · go_wp2_with fail
    refine (big_yes _ a0 len0 cap0 HLE.out hbig).mono ?_
    rintro e w' ⟨rfl, rfl⟩
    go_wp2_with fail
    go_ret
    exact ⟨rfl, Below.refl _ _⟩
  go_wp2_with fail
  refine (big_no _ a0 len0 cap0 HLE.out (by omega)).mono ?_
  rintro e w' ⟨rfl, rfl⟩
  clear hbig
  go_wp2_with fail
  refine (config_any w a0 len0 cap0 HC.out).mono ?_
  rintro e w1 ⟨⟨de, qu, wi, ti, qa, bu, le, pb, pc, pj, rfl, hcl⟩, hb⟩
  obtain ⟨n, rfl⟩ : ∃ n : Nat, de = (n : Int) := ⟨de.toNat, by have := hcl.1; omega⟩
  have hn1 : 1 ≤ n := by have := hcl.1; omega
  have hn3 : n ≤ 3 := by have := hcl.1; omega
  have hn10 : n ≤ 1000 := by omega
  have HCL := Lib.hid hcl
  have HOK := Lib.hid (gok_new hcl)
  have HL := Lib.hid hb
  replace HEG := Lib.hid (HEG.out.below hb)
  clear hcl hb
  obtain ⟨far, hfar⟩ : ∃ x, x = farS := ⟨_, rfl⟩
  obtain ⟨odd, hodd⟩ : ∃ x, x = oddS := ⟨_, rfl⟩
  obtain ⟨near, hnear⟩ : ∃ x, x = nearS := ⟨_, rfl⟩
  obtain ⟨ten, hten⟩ : ∃ x, x = farS.extract 0 10 := ⟨_, rfl⟩
  obtain ⟨two, hadd'⟩ : ∃ x, x = ten ++ (⟨#[120]⟩ : ByteArray) := ⟨_, rfl⟩
  have hsl : ∀ (wx : World), (Instr.slice 9 (.string far) none (some (.int .i64 10)) none).run Tryz.prog wx = .ok (.string ten) wx := by rw [hfar, hten]; exact far_slice
  have hsz1 : ten.size = 10 := by rw [hten]; exact far_fact.2.2.2.2.2
  have hs0 := Lib.hid (show (⟨#[]⟩ : ByteArray).size ≤ 281474976710656 by decide)
  have hs2 := Lib.hid (show two.size ≤ 281474976710656 by rw [hadd', hten, far_fact.2.2.2.2.1]; omega)
  have hs3 := Lib.hid (show far.size ≤ 281474976710656 by rw [hfar, far_fact.1]; omega)
  have hs4 := Lib.hid (show odd.size ≤ 281474976710656 by rw [hodd, odd_fact.1]; omega)
  have hs5 := Lib.hid (show near.size ≤ 281474976710656 by rw [hnear, near_fact.1]; omega)
  have hc1 := Lib.hid (one_c (n := n))
  have hc2 := two_c (n := n)
  rw [← hten, ← hadd'] at hc2
  replace hc2 := Lib.hid hc2
  have hc3 := three_c hn3
  rw [← hfar] at hc3
  replace hc3 := Lib.hid hc3
  have hc4 := four_c hn1
  rw [← hodd] at hc4
  replace hc4 := Lib.hid hc4
  have hc5 := five_c hn1
  rw [← hnear] at hc5
  replace hc5 := Lib.hid hc5
  have HFA := Lib.hid hfar
  have HOD := Lib.hid hodd
  have HNE := Lib.hid hnear
  have hadd := hadd'.symm
  clear hfar hodd hnear hten hadd'
  go_upto_region 4 with (first | (refine wpList_store_box rfl _ _ 27 rfl rfl [.int .i64 n, .int .i64 qu, .int .i64 wi, .int .i64 ti, .int .i64 qa, .int .i64 bu, .int .i64 le, .int .i64 pb, .int .i64 pc, .int .i64 pj, .int .i64 1000] rfl (Box.new _ [.int .i64 0, .int .i64 0, .int .i64 0, .int .i64 0, .int .i64 0, .int .i64 0, .int .i64 0, .int .i64 0, .int .i64 0, .int .i64 0, .int .i64 0] 27) sizeCfg rfl rfl ?_; intro V hXb hgV hlV; have HX := Lib.hid hXb; have HBV := Lib.hid (hlV w1.heap.size w1 (Nat.le_refl _) (bOne w1 _)); clear hXb hgV hlV) | fail)
  try simp only [Act.put]
  replace HEG := Lib.hid (HEG.out.below HBV.out)
  replace HL := Lib.hid (low_after HL.out HBV.out)
  clear HBV
  go_wp2_with (first | (refine wpList_load_box rfl _ 27 rfl rfl HX.out _ Tryz.underlying27 sizeCfg ?_) | fail)
  refine (implNew_yes _ n qu wi ti qa bu le pb pc pj 1000 hn10 (cfgB_yes HCL.out.ok)).mono ?_
  rintro e w2 ⟨⟨gk, gf, rfl, hk, hf⟩, hb⟩
  have HGI := Lib.hid (gis_new hn10 (lis_rep hk) (Lnk.IOwn.isN hf))
  replace HX := Lib.hid (HX.out.below hb)
  replace HEG := Lib.hid (HEG.out.below hb)
  replace HL := Lib.hid (low_after HL.out hb)
  clear hb hk hf
  go_upto_region 5 with (first | (refine wpList_store_box rfl _ _ 32 rfl rfl [.int .i64 n, .int .i64 qu, .int .i64 wi, .int .i64 ti, .int .i64 qa, .int .i64 bu, .int .i64 le, .int .i64 pb, .int .i64 pc, .int .i64 pj, .int .i64 1000, .int .i64 0, .int .i64 0, .slice none 0 0, .slice (some ⟨gk, 0, none⟩) n n, .int .i64 0, .slice (some ⟨gf, 0, none⟩) n n, .slice none 0 0, .int .i64 0, .int .i64 0, .int .i64 0] rfl (Box.new _ [.int .i64 0, .int .i64 0, .int .i64 0, .int .i64 0, .int .i64 0, .int .i64 0, .int .i64 0, .int .i64 0, .int .i64 0, .int .i64 0, .int .i64 0, .int .i64 0, .int .i64 0, .slice none 0 0, .slice none 0 0, .int .i64 0, .slice none 0 0, .slice none 0 0, .int .i64 0, .int .i64 0, .int .i64 0] 32) sizeGate rfl rfl ?_; intro V0 hXb hgV hlV; have HG0 := Lib.hid hXb; have HBV := Lib.hid (hlV w2.heap.size w2 (Nat.le_refl _) (bOne w2 _)); clear hXb hgV hlV) | fail)
  try simp only [Act.put]
  replace HX := Lib.hid (HX.out.below HBV.out)
  replace HEG := Lib.hid (HEG.out.below HBV.out)
  replace HL := Lib.hid (low_after HL.out HBV.out)
  replace HGI := Lib.hid (HGI.out.here HBV.out)
  clear HBV
  go_wp2_with fail
  refine (Frm.specPut_any 2 6 0 1 0 ⟨#[]⟩ _ (by decide)).mono ?_
  rintro e u0 ⟨rfl, hb⟩
  rw [show (⟨(Frm.putF 2 6 0 1 0 (⟨#[]⟩ : ByteArray).data.toList).toArray⟩ : ByteArray) = far from HFA.out.symm]
  replace HX := Lib.hid (HX.out.below hb)
  replace HG0 := Lib.hid (HG0.out.below hb)
  replace HEG := Lib.hid (HEG.out.below hb)
  replace HGI := Lib.hid (HGI.out.here hb)
  replace HL := Lib.hid (low_after HL.out hb)
  clear hb
  go_wp2_with fail
  refine (Frm.specPut_any 1 1 0 1 1 ⟨#[]⟩ _ (by decide)).mono ?_
  rintro e u0 ⟨rfl, hb⟩
  rw [show (⟨(Frm.putF 1 1 0 1 1 (⟨#[]⟩ : ByteArray).data.toList).toArray⟩ : ByteArray) = odd from HOD.out.symm]
  replace HX := Lib.hid (HX.out.below hb)
  replace HG0 := Lib.hid (HG0.out.below hb)
  replace HEG := Lib.hid (HEG.out.below hb)
  replace HGI := Lib.hid (HGI.out.here hb)
  replace HL := Lib.hid (low_after HL.out hb)
  clear hb
  go_wp2_with fail
  refine (Frm.specPut_any 4 1 0 1 0 ⟨#[]⟩ _ (by decide)).mono ?_
  rintro e u0 ⟨rfl, hb⟩
  rw [show (⟨(Frm.putF 4 1 0 1 0 (⟨#[]⟩ : ByteArray).data.toList).toArray⟩ : ByteArray) = near from HNE.out.symm]
  replace HX := Lib.hid (HX.out.below hb)
  replace HG0 := Lib.hid (HG0.out.below hb)
  replace HEG := Lib.hid (HEG.out.below hb)
  replace HGI := Lib.hid (HGI.out.here hb)
  replace HL := Lib.hid (low_after HL.out hb)
  clear hb
  go_wp2_with (first | (refine wpList_load_box rfl _ 32 rfl rfl HG0.out _ Tryz.underlying32 sizeGate ?_) | fail)
  refine (recv_new _ n qu wi ti qa bu le pb pc pj none 0 (some ⟨gk, 0, none⟩) n (some ⟨gf, 0, none⟩) n none 0 _ ⟨#[]⟩ hn10 hs0.out HEG.out HGI.out HOK.out hc1.out).mono ?_
  rintro e u1 ⟨⟨ea1, ec1, ka1, kc1, fa1, fc1, ra1, rc1, rfl⟩, hb⟩
  replace HX := Lib.hid (HX.out.below hb)
  replace HG0 := Lib.hid (HG0.out.below hb)
  replace HEG := Lib.hid (HEG.out.below hb)
  replace HGI := Lib.hid (HGI.out.here hb)
  replace HL := Lib.hid (low_after HL.out hb)
  clear hb
  go_upto_region 9 with (first | (refine wpList_store_box rfl _ _ 32 rfl rfl [.int .i64 n, .int .i64 qu, .int .i64 wi, .int .i64 ti, .int .i64 qa, .int .i64 bu, .int .i64 le, .int .i64 pb, .int .i64 pc, .int .i64 pj, .int .i64 1000, .int .i64 0, .int .i64 0, .slice ea1 0 ec1, .slice ka1 n kc1, .int .i64 0, .slice fa1 n fc1, .slice ra1 0 rc1, .int .i64 0, .int .i64 0, .int .i64 0] rfl (Box.new _ [.int .i64 0, .int .i64 0, .int .i64 0, .int .i64 0, .int .i64 0, .int .i64 0, .int .i64 0, .int .i64 0, .int .i64 0, .int .i64 0, .int .i64 0, .int .i64 0, .int .i64 0, .slice none 0 0, .slice none 0 0, .int .i64 0, .slice none 0 0, .slice none 0 0, .int .i64 0, .int .i64 0, .int .i64 0] 32) sizeGate rfl rfl ?_; intro V1 hXb hgV hlV; have HBV := Lib.hid (hlV u1.heap.size u1 (Nat.le_refl _) (bOne u1 _)); clear hXb hgV hlV) | fail)
  try simp only [Act.put]
  replace HX := Lib.hid (HX.out.below HBV.out)
  replace HG0 := Lib.hid (HG0.out.below HBV.out)
  replace HEG := Lib.hid (HEG.out.below HBV.out)
  replace HGI := Lib.hid (HGI.out.here HBV.out)
  replace HL := Lib.hid (low_after HL.out HBV.out)
  clear HBV

  obtain ⟨kg, hkg⟩ : ∃ k, k = w2.heap.size := ⟨_, rfl⟩
  obtain ⟨kc, hkc⟩ : ∃ k, k = w1.heap.size := ⟨_, rfl⟩
  rw [← hkg] at HG0
  rw [← hkc] at HX
  try rw [← hkg]
  try rw [← hkc]
  clear hkg hkc
  obtain ⟨wa, hwa⟩ : ∃ x, x = V1 := ⟨_, rfl⟩
  rw [← hwa] at HX HG0 HEG HGI HL ⊢
  clear hwa
  have hb := below_drew' (Below.refl wa.heap.size wa)
  replace HX := Lib.hid (HX.out.below hb)
  replace HG0 := Lib.hid (HG0.out.below hb)
  replace HEG := Lib.hid (HEG.out.below hb)
  replace HGI := Lib.hid (HGI.out.here hb)
  replace HL := Lib.hid (low_after HL.out hb)
  clear hb
  refine wp_region_held_drew (S := fun w' => Box w' kg 32 [.int .i64 n, .int .i64 qu, .int .i64 wi, .int .i64 ti, .int .i64 qa, .int .i64 bu, .int .i64 le, .int .i64 pb, .int .i64 pc, .int .i64 pj, .int .i64 1000, .int .i64 0, .int .i64 0, .slice none 0 0, .slice (some ⟨gk, 0, none⟩) n n, .int .i64 0, .slice (some ⟨gf, 0, none⟩) n n, .slice none 0 0, .int .i64 0, .int .i64 0, .int .i64 0]) (by kernel_rfl) HG0.out (fun hHeld => ?_)
  obtain ⟨wd, hwd⟩ : ∃ x, x = wa.drew := ⟨_, rfl⟩
  rw [← hwd] at HX HG0 HEG HGI HL hHeld ⊢
  clear hwd
  have HWW := Lib.hid (Nat.le_refl wd.heap.size)
  have HWB := Lib.hid (Below.refl wd.heap.size wd)
  have HEGd := HEG
  have HGId := HGI
  have HLd := HL
  refine wpAnyH_take (i := 0) (oi := { dst := some _, op := _, type := _, pos := _, after := _, guard := _ }) (v := ?_) rfl (by kernel_rfl) (by kernel_rfl) (by kernel_rfl) (fun _ _ _ h => h) ?_ (by with_reducible assumption) ?_
  rotate_left 1
  focus (refine Or.inl ⟨by rfl, ?_⟩; intro wq hSw; refine exec_load_box ?_ 32 ?_ ?_ hSw _ Tryz.underlying32 sizeGate; rotate_left 1; rfl; rfl)
  try simp only [Act.put, List.setIfInBounds_toArray, List.set_cons_zero, List.set_cons_succ]
  refine wpAnyH_take (i := 1) (oi := { dst := some _, op := _, type := _, pos := _, after := _, guard := _ }) (v := ?_) rfl (by kernel_rfl) (by kernel_rfl) (by kernel_rfl) (fun _ _ _ h => h) ?_ (by with_reducible assumption) ?_
  rotate_left 1
  focus (refine Or.inl ⟨by rfl, ?_⟩; intro wq hSw; go_simp; try with_reducible rfl)
  try simp only [Act.put, List.setIfInBounds_toArray, List.set_cons_zero, List.set_cons_succ]
  refine wpAnyH_take (i := 2) (oi := { dst := some _, op := _, type := _, pos := _, after := _, guard := _ }) (v := ?_) rfl (by kernel_rfl) (by kernel_rfl) (by kernel_rfl) (fun _ _ _ h => h) ?_ (by with_reducible assumption) ?_
  rotate_left 1
  focus (refine Or.inl ⟨by rfl, ?_⟩; intro wq hSw; go_simp; try with_reducible rfl)
  try simp only [Act.put, List.setIfInBounds_toArray, List.set_cons_zero, List.set_cons_succ]
  refine wpAnyH_take (i := 3) (oi := { dst := some _, op := _, type := _, pos := _, after := _, guard := _ }) (v := ?_) rfl (by kernel_rfl) (by kernel_rfl) (by kernel_rfl) (fun _ _ _ h => h) ?_ (by with_reducible assumption) ?_
  rotate_left 1
  focus (refine Or.inl ⟨by rfl, ?_⟩; intro wq hSw; go_simp; try with_reducible rfl)
  try simp only [Act.put, List.setIfInBounds_toArray, List.set_cons_zero, List.set_cons_succ]
  refine wpAnyH_ready (rs := [4, 9]) (by kernel_rfl) (by simp) ?_
  refine AllReadyH.cons rfl (fun KC hKC => ?_) ?_
  · go_simp
    refine (recv_new _ n qu wi ti qa bu le pb pc pj none 0 (some ⟨gk, 0, none⟩) n (some ⟨gf, 0, none⟩) n none 0 _ two hn10 hs2.out HEG.out HGI.out HOK.out hc2.out).mono ?_
    rintro e v1 ⟨⟨ea10, ec10, ka10, kc10, fa10, fc10, ra10, rc10, rfl⟩, hb⟩
    replace HWW := Lib.hid (Nat.le_trans HWW.out hb.size)
    replace HWB := Lib.hid (low_after HWB.out hb)
    replace HX := Lib.hid (HX.out.below hb)
    replace HG0 := Lib.hid (HG0.out.below hb)
    replace HEG := Lib.hid (HEG.out.below hb)
    replace HGI := Lib.hid (HGI.out.here hb)
    replace HL := Lib.hid (low_after HL.out hb)
    clear hb hHeld
    dsimp only
    refine hKC.out _ _ (HG0.out) (fun hHeld => ?_)
    clear hKC
    try simp only [Act.put, List.setIfInBounds_toArray, List.set_cons_zero, List.set_cons_succ]
    refine wpAnyH_take (i := 5) (oi := { dst := some _, op := _, type := _, pos := _, after := _, guard := _ }) (v := ?_) rfl (by kernel_rfl) (by kernel_rfl) (by kernel_rfl) (fun _ _ _ h => h) ?_ (by with_reducible assumption) ?_
    rotate_left 1
    focus (refine Or.inl ⟨by rfl, ?_⟩; intro wq hSw; go_simp; try with_reducible rfl)
    try simp only [Act.put, List.setIfInBounds_toArray, List.set_cons_zero, List.set_cons_succ]
    refine wpAnyH_take (i := 6) (oi := { dst := some _, op := _, type := _, pos := _, after := _, guard := _ }) (v := ?_) rfl (by kernel_rfl) (by kernel_rfl) (by kernel_rfl) (fun _ _ _ h => h) ?_ (by with_reducible assumption) ?_
    rotate_left 1
    focus (refine Or.inl ⟨by rfl, ?_⟩; intro wq hSw; go_simp; try with_reducible rfl)
    try simp only [Act.put, List.setIfInBounds_toArray, List.set_cons_zero, List.set_cons_succ]
    refine wpAnyH_take (i := 7) (oi := { dst := some _, op := _, type := _, pos := _, after := _, guard := _ }) (v := ?_) rfl (by kernel_rfl) (by kernel_rfl) (by kernel_rfl) (fun _ _ _ h => h) ?_ (by with_reducible assumption) ?_
    rotate_left 1
    focus (refine Or.inl ⟨by rfl, ?_⟩; intro wq hSw; go_simp; try with_reducible rfl)
    try simp only [Act.put, List.setIfInBounds_toArray, List.set_cons_zero, List.set_cons_succ]
    refine wpAnyH_take (i := 8) (oi := { dst := some _, op := _, type := _, pos := _, after := _, guard := _ }) (v := ?_) rfl (by kernel_rfl) (by kernel_rfl) (by kernel_rfl) (fun _ _ _ h => h) ?_ (by with_reducible assumption) ?_
    rotate_left 1
    focus (refine Or.inl ⟨by rfl, ?_⟩; intro wq hSw; go_simp; try with_reducible rfl)
    try simp only [Act.put, List.setIfInBounds_toArray, List.set_cons_zero, List.set_cons_succ]
    refine wpAnyH_ready (rs := [9]) (by kernel_rfl) (by simp) ?_
    refine AllReadyH.cons rfl (fun KB hKB => ?_) AllReadyH.nil
    obtain ⟨k8, hk8⟩ : ∃ k, k = v1.heap.size := ⟨_, rfl⟩
    have HK8 := Lib.hid (show kg < k8 ∧ kc < k8 ∧ w.heap.size ≤ k8 ∧ 0 < k8 by rw [hk8]; exact ⟨HG0.out.lt, HX.out.lt, HL.out.size, Nat.lt_of_le_of_lt (Nat.zero_le _) HX.out.lt⟩)
    have HW8 := Lib.hid (show wd.heap.size ≤ k8 by rw [hk8]; exact HWW.out)
    have hb := bOne v1 (.cells #[.int .i64 0, .int .i64 0, .int .i64 0, .int .i64 0, .int .i64 0, .int .i64 0, .int .i64 0, .int .i64 0, .int .i64 0, .int .i64 0, .int .i64 0, .int .i64 0, .int .i64 0, .slice none 0 0, .slice none 0 0, .int .i64 0, .slice none 0 0, .slice none 0 0, .int .i64 0, .int .i64 0, .int .i64 0] 32)
    have HB8 := Lib.hid (show Box (v1.alloc (.cells #[.int .i64 0, .int .i64 0, .int .i64 0, .int .i64 0, .int .i64 0, .int .i64 0, .int .i64 0, .int .i64 0, .int .i64 0, .int .i64 0, .int .i64 0, .int .i64 0, .int .i64 0, .slice none 0 0, .slice none 0 0, .int .i64 0, .slice none 0 0, .slice none 0 0, .int .i64 0, .int .i64 0, .int .i64 0] 32)) k8 32 [.int .i64 0, .int .i64 0, .int .i64 0, .int .i64 0, .int .i64 0, .int .i64 0, .int .i64 0, .int .i64 0, .int .i64 0, .int .i64 0, .int .i64 0, .int .i64 0, .int .i64 0, .slice none 0 0, .slice none 0 0, .int .i64 0, .slice none 0 0, .slice none 0 0, .int .i64 0, .int .i64 0, .int .i64 0] by rw [hk8]; exact Box.new v1 [.int .i64 0, .int .i64 0, .int .i64 0, .int .i64 0, .int .i64 0, .int .i64 0, .int .i64 0, .int .i64 0, .int .i64 0, .int .i64 0, .int .i64 0, .int .i64 0, .int .i64 0, .slice none 0 0, .slice none 0 0, .int .i64 0, .slice none 0 0, .slice none 0 0, .int .i64 0, .int .i64 0, .int .i64 0] 32)
    go_simp
    rw [← hk8]
    replace HWW := Lib.hid (Nat.le_trans HWW.out hb.size)
    replace HWB := Lib.hid (low_after HWB.out hb)
    replace HX := Lib.hid (HX.out.below hb)
    replace HG0 := Lib.hid (HG0.out.below hb)
    replace HEG := Lib.hid (HEG.out.below hb)
    replace HGI := Lib.hid (HGI.out.here hb)
    replace HL := Lib.hid (low_after HL.out hb)
    clear hb hk8 hHeld
    refine hKB.out _ _ (HG0.out) (fun hHeld => ?_)
    clear hKB
    try simp only [Act.put, List.setIfInBounds_toArray, List.set_cons_zero, List.set_cons_succ]
    refine wpAnyH_ready (rs := [10]) (by kernel_rfl) (by simp) ?_
    refine AllReadyH.cons rfl (fun KS hKS => ?_) AllReadyH.nil
    refine step_store_box rfl _ _ 32 rfl rfl [.int .i64 n, .int .i64 qu, .int .i64 wi, .int .i64 ti, .int .i64 qa, .int .i64 bu, .int .i64 le, .int .i64 pb, .int .i64 pc, .int .i64 pj, .int .i64 1000, .int .i64 0, .int .i64 0, .slice ea10 0 ec10, .slice ka10 n kc10, .int .i64 0, .slice fa10 n fc10, .slice ra10 0 rc10, .int .i64 0, .int .i64 0, .int .i64 0] rfl HB8.out sizeGate rfl rfl ?_
    intro v3 hXb hgV hlV
    replace HX := Lib.hid (HX.out.grown hgV (fun e => by injection e; have := HK8.out; omega))
    replace HG0 := Lib.hid (HG0.out.grown hgV (fun e => by injection e; have := HK8.out; omega))
    have hbw := hlV wd.heap.size wd HW8.out HWB.out
    replace HEG := Lib.hid (HEGd.out.below hbw)
    replace HGI := Lib.hid (HGId.out.here hbw)
    replace HL := Lib.hid (low_after HLd.out hbw)
    clear hbw hXb hgV hlV hHeld
    refine hKS.out _ _ (HG0.out) (fun hHeld => ?_)
    clear hKS
    try simp only [Act.put, List.setIfInBounds_toArray, List.set_cons_zero, List.set_cons_succ]
    refine wpAnyH_take (i := 11) (oi := { dst := some _, op := _, type := _, pos := _, after := _, guard := _ }) (v := ?_) rfl (by kernel_rfl) (by kernel_rfl) (by kernel_rfl) (fun _ _ _ h => h) ?_ (by with_reducible assumption) ?_
    rotate_left 1
    focus (refine Or.inl ⟨by rfl, ?_⟩; intro wq hSw; go_simp; try with_reducible rfl)
    try simp only [Act.put, List.setIfInBounds_toArray, List.set_cons_zero, List.set_cons_succ]
    refine wpAnyH_take (i := 12) (oi := { dst := some _, op := _, type := _, pos := _, after := _, guard := _ }) (v := ?_) rfl (by kernel_rfl) (by kernel_rfl) (by kernel_rfl) (fun _ _ _ h => h) ?_ (by with_reducible assumption) ?_
    rotate_left 1
    focus (refine Or.inl ⟨by rfl, ?_⟩; intro wq hSw; go_simp; try with_reducible rfl)
    try simp only [Act.put, List.setIfInBounds_toArray, List.set_cons_zero, List.set_cons_succ]
    refine wpAnyH_done (by kernel_rfl) ?_ _
    clear hHeld HWW HWB HEGd HGId HLd hsl hsz1 hadd
    go_wp2_with (first | (refine wpList_load_box rfl _ 32 rfl rfl HG0.out _ Tryz.underlying32 sizeGate ?_) | fail)
    refine (recv_new _ n qu wi ti qa bu le pb pc pj none 0 (some ⟨gk, 0, none⟩) n (some ⟨gf, 0, none⟩) n none 0 _ far hn10 hs3.out HEG.out HGI.out HOK.out hc3.out).mono ?_
    rintro e u2 ⟨⟨ea2, ec2, ka2, kc2, fa2, fc2, ra2, rc2, rfl⟩, hb⟩
    replace HX := Lib.hid (HX.out.below hb)
    replace HG0 := Lib.hid (HG0.out.below hb)
    replace HEG := Lib.hid (HEG.out.below hb)
    replace HGI := Lib.hid (HGI.out.here hb)
    replace HL := Lib.hid (low_after HL.out hb)
    clear hb
    go_upto_region 11 with (first | (refine wpList_store_box rfl _ _ 32 rfl rfl [.int .i64 n, .int .i64 qu, .int .i64 wi, .int .i64 ti, .int .i64 qa, .int .i64 bu, .int .i64 le, .int .i64 pb, .int .i64 pc, .int .i64 pj, .int .i64 1000, .int .i64 0, .int .i64 0, .slice ea2 0 ec2, .slice ka2 n kc2, .int .i64 0, .slice fa2 n fc2, .slice ra2 0 rc2, .int .i64 0, .int .i64 0, .int .i64 0] rfl (Box.new _ [.int .i64 0, .int .i64 0, .int .i64 0, .int .i64 0, .int .i64 0, .int .i64 0, .int .i64 0, .int .i64 0, .int .i64 0, .int .i64 0, .int .i64 0, .int .i64 0, .int .i64 0, .slice none 0 0, .slice none 0 0, .int .i64 0, .slice none 0 0, .slice none 0 0, .int .i64 0, .int .i64 0, .int .i64 0] 32) sizeGate rfl rfl ?_; intro V2 hXb hgV hlV; have HBV := Lib.hid (hlV u2.heap.size u2 (Nat.le_refl _) (bOne u2 _)); clear hXb hgV hlV) | fail)
    try simp only [Act.put]
    replace HX := Lib.hid (HX.out.below HBV.out)
    replace HG0 := Lib.hid (HG0.out.below HBV.out)
    replace HEG := Lib.hid (HEG.out.below HBV.out)
    replace HGI := Lib.hid (HGI.out.here HBV.out)
    replace HL := Lib.hid (low_after HL.out HBV.out)
    clear HBV
    go_wp2_with (first | (refine wpList_load_box rfl _ 32 rfl rfl HG0.out _ Tryz.underlying32 sizeGate ?_) | fail)
    refine (recv_new _ n qu wi ti qa bu le pb pc pj none 0 (some ⟨gk, 0, none⟩) n (some ⟨gf, 0, none⟩) n none 0 _ odd hn10 hs4.out HEG.out HGI.out HOK.out hc4.out).mono ?_
    rintro e u3 ⟨⟨ea3, ec3, ka3, kc3, fa3, fc3, ra3, rc3, rfl⟩, hb⟩
    replace HX := Lib.hid (HX.out.below hb)
    replace HG0 := Lib.hid (HG0.out.below hb)
    replace HEG := Lib.hid (HEG.out.below hb)
    replace HGI := Lib.hid (HGI.out.here hb)
    replace HL := Lib.hid (low_after HL.out hb)
    clear hb
    go_upto_region 12 with (first | (refine wpList_store_box rfl _ _ 32 rfl rfl [.int .i64 n, .int .i64 qu, .int .i64 wi, .int .i64 ti, .int .i64 qa, .int .i64 bu, .int .i64 le, .int .i64 pb, .int .i64 pc, .int .i64 pj, .int .i64 1000, .int .i64 0, .int .i64 0, .slice ea3 0 ec3, .slice ka3 n kc3, .int .i64 0, .slice fa3 n fc3, .slice ra3 0 rc3, .int .i64 0, .int .i64 0, .int .i64 0] rfl (Box.new _ [.int .i64 0, .int .i64 0, .int .i64 0, .int .i64 0, .int .i64 0, .int .i64 0, .int .i64 0, .int .i64 0, .int .i64 0, .int .i64 0, .int .i64 0, .int .i64 0, .int .i64 0, .slice none 0 0, .slice none 0 0, .int .i64 0, .slice none 0 0, .slice none 0 0, .int .i64 0, .int .i64 0, .int .i64 0] 32) sizeGate rfl rfl ?_; intro V3 hXb hgV hlV; have HBV := Lib.hid (hlV u3.heap.size u3 (Nat.le_refl _) (bOne u3 _)); clear hXb hgV hlV) | fail)
    try simp only [Act.put]
    replace HX := Lib.hid (HX.out.below HBV.out)
    replace HG0 := Lib.hid (HG0.out.below HBV.out)
    replace HEG := Lib.hid (HEG.out.below HBV.out)
    replace HGI := Lib.hid (HGI.out.here HBV.out)
    replace HL := Lib.hid (low_after HL.out HBV.out)
    clear HBV
    go_wp2_with (first | (refine wpList_load_box rfl _ 32 rfl rfl HG0.out _ Tryz.underlying32 sizeGate ?_) | fail)
    refine (recv_new _ n qu wi ti qa bu le pb pc pj none 0 (some ⟨gk, 0, none⟩) n (some ⟨gf, 0, none⟩) n none 0 _ near hn10 hs5.out HEG.out HGI.out HOK.out hc5.out).mono ?_
    rintro e u4 ⟨⟨ea4, ec4, ka4, kc4, fa4, fc4, ra4, rc4, rfl⟩, hb⟩
    replace HX := Lib.hid (HX.out.below hb)
    replace HG0 := Lib.hid (HG0.out.below hb)
    replace HEG := Lib.hid (HEG.out.below hb)
    replace HGI := Lib.hid (HGI.out.here hb)
    replace HL := Lib.hid (low_after HL.out hb)
    clear hb
    go_upto_region 13 with (first | (refine wpList_store_box rfl _ _ 32 rfl rfl [.int .i64 n, .int .i64 qu, .int .i64 wi, .int .i64 ti, .int .i64 qa, .int .i64 bu, .int .i64 le, .int .i64 pb, .int .i64 pc, .int .i64 pj, .int .i64 1000, .int .i64 0, .int .i64 0, .slice ea4 0 ec4, .slice ka4 n kc4, .int .i64 0, .slice fa4 n fc4, .slice ra4 0 rc4, .int .i64 0, .int .i64 0, .int .i64 0] rfl (Box.new _ [.int .i64 0, .int .i64 0, .int .i64 0, .int .i64 0, .int .i64 0, .int .i64 0, .int .i64 0, .int .i64 0, .int .i64 0, .int .i64 0, .int .i64 0, .int .i64 0, .int .i64 0, .slice none 0 0, .slice none 0 0, .int .i64 0, .slice none 0 0, .slice none 0 0, .int .i64 0, .int .i64 0, .int .i64 0] 32) sizeGate rfl rfl ?_; intro V4 hXb hgV hlV; have HBV := Lib.hid (hlV u4.heap.size u4 (Nat.le_refl _) (bOne u4 _)); clear hXb hgV hlV) | fail)
    try simp only [Act.put]
    replace HX := Lib.hid (HX.out.below HBV.out)
    replace HG0 := Lib.hid (HG0.out.below HBV.out)
    replace HEG := Lib.hid (HEG.out.below HBV.out)
    replace HGI := Lib.hid (HGI.out.here HBV.out)
    replace HL := Lib.hid (low_after HL.out HBV.out)
    clear HBV
    go_wp2_with (first | (refine wpList_load_box rfl _ 32 rfl rfl HG0.out _ Tryz.underlying32 sizeGate ?_) | fail)
    refine (recv_zero _ far hs3.out HEG.out).mono ?_
    rintro e u5 ⟨⟨ea5, ec5, ka5, kc5, fa5, fc5, ra5, rc5, rfl⟩, hb⟩
    replace HX := Lib.hid (HX.out.below hb)
    replace HG0 := Lib.hid (HG0.out.below hb)
    replace HEG := Lib.hid (HEG.out.below hb)
    replace HGI := Lib.hid (HGI.out.here hb)
    replace HL := Lib.hid (low_after HL.out hb)
    clear hb
    go_upto_region 14 with (first | (refine wpList_store_box rfl _ _ 32 rfl rfl [.int .i64 0, .int .i64 0, .int .i64 0, .int .i64 0, .int .i64 0, .int .i64 0, .int .i64 0, .int .i64 0, .int .i64 0, .int .i64 0, .int .i64 0, .int .i64 0, .int .i64 0, .slice ea5 0 ec5, .slice ka5 0 kc5, .int .i64 0, .slice fa5 0 fc5, .slice ra5 0 rc5, .int .i64 0, .int .i64 0, .int .i64 0] rfl (Box.new _ [.int .i64 0, .int .i64 0, .int .i64 0, .int .i64 0, .int .i64 0, .int .i64 0, .int .i64 0, .int .i64 0, .int .i64 0, .int .i64 0, .int .i64 0, .int .i64 0, .int .i64 0, .slice none 0 0, .slice none 0 0, .int .i64 0, .slice none 0 0, .slice none 0 0, .int .i64 0, .int .i64 0, .int .i64 0] 32) sizeGate rfl rfl ?_; intro V5 hXb hgV hlV; have HBV := Lib.hid (hlV u5.heap.size u5 (Nat.le_refl _) (bOne u5 _)); clear hXb hgV hlV) | fail)
    try simp only [Act.put]
    replace HX := Lib.hid (HX.out.below HBV.out)
    replace HG0 := Lib.hid (HG0.out.below HBV.out)
    replace HEG := Lib.hid (HEG.out.below HBV.out)
    replace HGI := Lib.hid (HGI.out.here HBV.out)
    replace HL := Lib.hid (low_after HL.out HBV.out)
    clear HBV
    go_wp2_with (first | (refine wpList_load_box rfl _ 32 rfl rfl HG0.out _ Tryz.underlying32 sizeGate ?_) | fail)
    refine (subm_new _ n qu wi ti qa bu le pb pc pj none 0 (some ⟨gk, 0, none⟩) n (some ⟨gf, 0, none⟩) n none 0 0 0 0 3 ⟨#[]⟩ hn10 (by decide) HEG.out HGI.out HOK.out (su_c) (by decide)).mono ?_
    rintro e u6 ⟨⟨ea6, ec6, ka6, kc6, fa6, fc6, ra6, rc6, rfl⟩, hb⟩
    replace HX := Lib.hid (HX.out.below hb)
    replace HG0 := Lib.hid (HG0.out.below hb)
    replace HEG := Lib.hid (HEG.out.below hb)
    replace HGI := Lib.hid (HGI.out.here hb)
    replace HL := Lib.hid (low_after HL.out hb)
    clear hb
    go_upto_region 15 with (first | (refine wpList_store_box rfl _ _ 32 rfl rfl [.int .i64 n, .int .i64 qu, .int .i64 wi, .int .i64 ti, .int .i64 qa, .int .i64 bu, .int .i64 le, .int .i64 pb, .int .i64 pc, .int .i64 pj, .int .i64 1000, .int .i64 0, .int .i64 0, .slice ea6 0 ec6, .slice ka6 n kc6, .int .i64 0, .slice fa6 n fc6, .slice ra6 0 rc6, .int .i64 0, .int .i64 0, .int .i64 0] rfl (Box.new _ [.int .i64 0, .int .i64 0, .int .i64 0, .int .i64 0, .int .i64 0, .int .i64 0, .int .i64 0, .int .i64 0, .int .i64 0, .int .i64 0, .int .i64 0, .int .i64 0, .int .i64 0, .slice none 0 0, .slice none 0 0, .int .i64 0, .slice none 0 0, .slice none 0 0, .int .i64 0, .int .i64 0, .int .i64 0] 32) sizeGate rfl rfl ?_; intro V6 hXb hgV hlV; have HBV := Lib.hid (hlV u6.heap.size u6 (Nat.le_refl _) (bOne u6 _)); clear hXb hgV hlV) | fail)
    try simp only [Act.put]
    replace HX := Lib.hid (HX.out.below HBV.out)
    replace HG0 := Lib.hid (HG0.out.below HBV.out)
    replace HEG := Lib.hid (HEG.out.below HBV.out)
    replace HGI := Lib.hid (HGI.out.here HBV.out)
    replace HL := Lib.hid (low_after HL.out HBV.out)
    clear HBV
    go_wp2_with (first | (refine wpList_load_box rfl _ 32 rfl rfl HG0.out _ Tryz.underlying32 sizeGate ?_) | fail)
    refine (subm_new _ n qu wi ti qa bu le pb pc pj none 0 (some ⟨gk, 0, none⟩) n (some ⟨gf, 0, none⟩) n none 0 1 0 0 4 ⟨#[]⟩ hn10 (by decide) HEG.out HGI.out HOK.out (sv_c hn1) (by decide)).mono ?_
    rintro e u7 ⟨⟨ea7, ec7, ka7, kc7, fa7, fc7, ra7, rc7, rfl⟩, hb⟩
    replace HX := Lib.hid (HX.out.below hb)
    replace HG0 := Lib.hid (HG0.out.below hb)
    replace HEG := Lib.hid (HEG.out.below hb)
    replace HGI := Lib.hid (HGI.out.here hb)
    replace HL := Lib.hid (low_after HL.out hb)
    clear hb
    go_upto_region 16 with (first | (refine wpList_store_box rfl _ _ 32 rfl rfl [.int .i64 n, .int .i64 qu, .int .i64 wi, .int .i64 ti, .int .i64 qa, .int .i64 bu, .int .i64 le, .int .i64 pb, .int .i64 pc, .int .i64 pj, .int .i64 1000, .int .i64 0, .int .i64 0, .slice ea7 0 ec7, .slice ka7 n kc7, .int .i64 0, .slice fa7 n fc7, .slice ra7 0 rc7, .int .i64 0, .int .i64 0, .int .i64 0] rfl (Box.new _ [.int .i64 0, .int .i64 0, .int .i64 0, .int .i64 0, .int .i64 0, .int .i64 0, .int .i64 0, .int .i64 0, .int .i64 0, .int .i64 0, .int .i64 0, .int .i64 0, .int .i64 0, .slice none 0 0, .slice none 0 0, .int .i64 0, .slice none 0 0, .slice none 0 0, .int .i64 0, .int .i64 0, .int .i64 0] 32) sizeGate rfl rfl ?_; intro V7 hXb hgV hlV; have HBV := Lib.hid (hlV u7.heap.size u7 (Nat.le_refl _) (bOne u7 _)); clear hXb hgV hlV) | fail)
    try simp only [Act.put]
    replace HX := Lib.hid (HX.out.below HBV.out)
    replace HG0 := Lib.hid (HG0.out.below HBV.out)
    replace HEG := Lib.hid (HEG.out.below HBV.out)
    replace HGI := Lib.hid (HGI.out.here HBV.out)
    replace HL := Lib.hid (low_after HL.out HBV.out)
    clear HBV
    go_wp2_with (first | (refine wpList_load_box rfl _ 32 rfl rfl HG0.out _ Tryz.underlying32 sizeGate ?_) | fail)
    refine (subm_new _ n qu wi ti qa bu le pb pc pj none 0 (some ⟨gk, 0, none⟩) n (some ⟨gf, 0, none⟩) n none 0 1 1 0 6 ⟨#[]⟩ hn10 (by decide) HEG.out HGI.out HOK.out (sw_c hn1) (by decide)).mono ?_
    rintro e u8 ⟨⟨ea8, ec8, ka8, kc8, fa8, fc8, ra8, rc8, rfl⟩, hb⟩
    replace HX := Lib.hid (HX.out.below hb)
    replace HG0 := Lib.hid (HG0.out.below hb)
    replace HEG := Lib.hid (HEG.out.below hb)
    replace HGI := Lib.hid (HGI.out.here hb)
    replace HL := Lib.hid (low_after HL.out hb)
    clear hb
    go_upto_region 17 with (first | (refine wpList_store_box rfl _ _ 32 rfl rfl [.int .i64 n, .int .i64 qu, .int .i64 wi, .int .i64 ti, .int .i64 qa, .int .i64 bu, .int .i64 le, .int .i64 pb, .int .i64 pc, .int .i64 pj, .int .i64 1000, .int .i64 0, .int .i64 0, .slice ea8 0 ec8, .slice ka8 n kc8, .int .i64 0, .slice fa8 n fc8, .slice ra8 0 rc8, .int .i64 0, .int .i64 0, .int .i64 0] rfl (Box.new _ [.int .i64 0, .int .i64 0, .int .i64 0, .int .i64 0, .int .i64 0, .int .i64 0, .int .i64 0, .int .i64 0, .int .i64 0, .int .i64 0, .int .i64 0, .int .i64 0, .int .i64 0, .slice none 0 0, .slice none 0 0, .int .i64 0, .slice none 0 0, .slice none 0 0, .int .i64 0, .int .i64 0, .int .i64 0] 32) sizeGate rfl rfl ?_; intro V8 hXb hgV hlV; have HBV := Lib.hid (hlV u8.heap.size u8 (Nat.le_refl _) (bOne u8 _)); clear hXb hgV hlV) | fail)
    try simp only [Act.put]
    replace HX := Lib.hid (HX.out.below HBV.out)
    replace HG0 := Lib.hid (HG0.out.below HBV.out)
    replace HEG := Lib.hid (HEG.out.below HBV.out)
    replace HGI := Lib.hid (HGI.out.here HBV.out)
    replace HL := Lib.hid (low_after HL.out HBV.out)
    clear HBV
    have x10 := HX.out.cell 10 _ rfl
    have hw1 : IntKind.i64.wrap (1000 + 1) = 1001 := by decide
    go_wp2_with (first | (refine wpList_load_box rfl _ 32 rfl rfl HG0.out _ Tryz.underlying32 sizeGate ?_) | fail)
    refine (subm_new _ n qu wi ti qa bu le pb pc pj none 0 (some ⟨gk, 0, none⟩) n (some ⟨gf, 0, none⟩) n none 0 1 1 1001 6 ⟨#[]⟩ hn10 (by decide) HEG.out HGI.out HOK.out (sx_c hn1) (by decide)).mono ?_
    rintro e u9 ⟨⟨ea9, ec9, ka9, kc9, fa9, fc9, ra9, rc9, rfl⟩, hb⟩
    replace HX := Lib.hid (HX.out.below hb)
    replace HG0 := Lib.hid (HG0.out.below hb)
    replace HEG := Lib.hid (HEG.out.below hb)
    replace HGI := Lib.hid (HGI.out.here hb)
    replace HL := Lib.hid (low_after HL.out hb)
    clear hb
    go_upto_region 18 with (first | (refine wpList_store_box rfl _ _ 32 rfl rfl [.int .i64 n, .int .i64 qu, .int .i64 wi, .int .i64 ti, .int .i64 qa, .int .i64 bu, .int .i64 le, .int .i64 pb, .int .i64 pc, .int .i64 pj, .int .i64 1000, .int .i64 0, .int .i64 0, .slice ea9 0 ec9, .slice ka9 n kc9, .int .i64 0, .slice fa9 n fc9, .slice ra9 0 rc9, .int .i64 0, .int .i64 0, .int .i64 0] rfl (Box.new _ [.int .i64 0, .int .i64 0, .int .i64 0, .int .i64 0, .int .i64 0, .int .i64 0, .int .i64 0, .int .i64 0, .int .i64 0, .int .i64 0, .int .i64 0, .int .i64 0, .int .i64 0, .slice none 0 0, .slice none 0 0, .int .i64 0, .slice none 0 0, .slice none 0 0, .int .i64 0, .int .i64 0, .int .i64 0] 32) sizeGate rfl rfl ?_; intro V9 hXb hgV hlV; have HBV := Lib.hid (hlV u9.heap.size u9 (Nat.le_refl _) (bOne u9 _)); clear hXb hgV hlV) | fail)
    try simp only [Act.put]
    replace HX := Lib.hid (HX.out.below HBV.out)
    replace HG0 := Lib.hid (HG0.out.below HBV.out)
    replace HEG := Lib.hid (HEG.out.below HBV.out)
    replace HGI := Lib.hid (HGI.out.here HBV.out)
    replace HL := Lib.hid (low_after HL.out HBV.out)
    clear HBV
    clear x10
    go_wp2_with fail
    go_ret
    exact ⟨rfl, HL.out⟩
  · refine AllReadyH.cons rfl (fun KB hKB => ?_) AllReadyH.nil
    obtain ⟨k8, hk8⟩ : ∃ k, k = wd.heap.size := ⟨_, rfl⟩
    have HK8 := Lib.hid (show kg < k8 ∧ kc < k8 ∧ w.heap.size ≤ k8 ∧ 0 < k8 by rw [hk8]; exact ⟨HG0.out.lt, HX.out.lt, HL.out.size, Nat.lt_of_le_of_lt (Nat.zero_le _) HX.out.lt⟩)
    have HW8 := Lib.hid (show wd.heap.size ≤ k8 by rw [hk8]; exact HWW.out)
    have hb := bOne wd (.cells #[.int .i64 0, .int .i64 0, .int .i64 0, .int .i64 0, .int .i64 0, .int .i64 0, .int .i64 0, .int .i64 0, .int .i64 0, .int .i64 0, .int .i64 0, .int .i64 0, .int .i64 0, .slice none 0 0, .slice none 0 0, .int .i64 0, .slice none 0 0, .slice none 0 0, .int .i64 0, .int .i64 0, .int .i64 0] 32)
    have HB8 := Lib.hid (show Box (wd.alloc (.cells #[.int .i64 0, .int .i64 0, .int .i64 0, .int .i64 0, .int .i64 0, .int .i64 0, .int .i64 0, .int .i64 0, .int .i64 0, .int .i64 0, .int .i64 0, .int .i64 0, .int .i64 0, .slice none 0 0, .slice none 0 0, .int .i64 0, .slice none 0 0, .slice none 0 0, .int .i64 0, .int .i64 0, .int .i64 0] 32)) k8 32 [.int .i64 0, .int .i64 0, .int .i64 0, .int .i64 0, .int .i64 0, .int .i64 0, .int .i64 0, .int .i64 0, .int .i64 0, .int .i64 0, .int .i64 0, .int .i64 0, .int .i64 0, .slice none 0 0, .slice none 0 0, .int .i64 0, .slice none 0 0, .slice none 0 0, .int .i64 0, .int .i64 0, .int .i64 0] by rw [hk8]; exact Box.new wd [.int .i64 0, .int .i64 0, .int .i64 0, .int .i64 0, .int .i64 0, .int .i64 0, .int .i64 0, .int .i64 0, .int .i64 0, .int .i64 0, .int .i64 0, .int .i64 0, .int .i64 0, .slice none 0 0, .slice none 0 0, .int .i64 0, .slice none 0 0, .slice none 0 0, .int .i64 0, .int .i64 0, .int .i64 0] 32)
    go_simp
    rw [← hk8]
    replace HWW := Lib.hid (Nat.le_trans HWW.out hb.size)
    replace HWB := Lib.hid (low_after HWB.out hb)
    replace HX := Lib.hid (HX.out.below hb)
    replace HG0 := Lib.hid (HG0.out.below hb)
    replace HEG := Lib.hid (HEG.out.below hb)
    replace HGI := Lib.hid (HGI.out.here hb)
    replace HL := Lib.hid (low_after HL.out hb)
    clear hb hk8 hHeld
    refine hKB.out _ _ (HG0.out) (fun hHeld => ?_)
    clear hKB
    try simp only [Act.put, List.setIfInBounds_toArray, List.set_cons_zero, List.set_cons_succ]
    refine wpAnyH_ready (rs := [4]) (by kernel_rfl) (by simp) ?_
    refine AllReadyH.cons rfl (fun KC hKC => ?_) AllReadyH.nil
    go_simp
    refine (recv_new _ n qu wi ti qa bu le pb pc pj none 0 (some ⟨gk, 0, none⟩) n (some ⟨gf, 0, none⟩) n none 0 _ two hn10 hs2.out HEG.out HGI.out HOK.out hc2.out).mono ?_
    rintro e v1 ⟨⟨ea10, ec10, ka10, kc10, fa10, fc10, ra10, rc10, rfl⟩, hb⟩
    replace HWW := Lib.hid (Nat.le_trans HWW.out hb.size)
    replace HWB := Lib.hid (low_after HWB.out hb)
    replace HB8 := Lib.hid (HB8.out.below hb)
    replace HX := Lib.hid (HX.out.below hb)
    replace HG0 := Lib.hid (HG0.out.below hb)
    replace HEG := Lib.hid (HEG.out.below hb)
    replace HGI := Lib.hid (HGI.out.here hb)
    replace HL := Lib.hid (low_after HL.out hb)
    clear hb hHeld
    dsimp only
    refine hKC.out _ _ (HG0.out) (fun hHeld => ?_)
    clear hKC
    try simp only [Act.put, List.setIfInBounds_toArray, List.set_cons_zero, List.set_cons_succ]
    refine wpAnyH_take (i := 5) (oi := { dst := some _, op := _, type := _, pos := _, after := _, guard := _ }) (v := ?_) rfl (by kernel_rfl) (by kernel_rfl) (by kernel_rfl) (fun _ _ _ h => h) ?_ (by with_reducible assumption) ?_
    rotate_left 1
    focus (refine Or.inl ⟨by rfl, ?_⟩; intro wq hSw; go_simp; try with_reducible rfl)
    try simp only [Act.put, List.setIfInBounds_toArray, List.set_cons_zero, List.set_cons_succ]
    refine wpAnyH_take (i := 6) (oi := { dst := some _, op := _, type := _, pos := _, after := _, guard := _ }) (v := ?_) rfl (by kernel_rfl) (by kernel_rfl) (by kernel_rfl) (fun _ _ _ h => h) ?_ (by with_reducible assumption) ?_
    rotate_left 1
    focus (refine Or.inl ⟨by rfl, ?_⟩; intro wq hSw; go_simp; try with_reducible rfl)
    try simp only [Act.put, List.setIfInBounds_toArray, List.set_cons_zero, List.set_cons_succ]
    refine wpAnyH_take (i := 7) (oi := { dst := some _, op := _, type := _, pos := _, after := _, guard := _ }) (v := ?_) rfl (by kernel_rfl) (by kernel_rfl) (by kernel_rfl) (fun _ _ _ h => h) ?_ (by with_reducible assumption) ?_
    rotate_left 1
    focus (refine Or.inl ⟨by rfl, ?_⟩; intro wq hSw; go_simp; try with_reducible rfl)
    try simp only [Act.put, List.setIfInBounds_toArray, List.set_cons_zero, List.set_cons_succ]
    refine wpAnyH_take (i := 8) (oi := { dst := some _, op := _, type := _, pos := _, after := _, guard := _ }) (v := ?_) rfl (by kernel_rfl) (by kernel_rfl) (by kernel_rfl) (fun _ _ _ h => h) ?_ (by with_reducible assumption) ?_
    rotate_left 1
    focus (refine Or.inl ⟨by rfl, ?_⟩; intro wq hSw; go_simp; try with_reducible rfl)
    try simp only [Act.put, List.setIfInBounds_toArray, List.set_cons_zero, List.set_cons_succ]
    refine wpAnyH_ready (rs := [10]) (by kernel_rfl) (by simp) ?_
    refine AllReadyH.cons rfl (fun KS hKS => ?_) AllReadyH.nil
    refine step_store_box rfl _ _ 32 rfl rfl [.int .i64 n, .int .i64 qu, .int .i64 wi, .int .i64 ti, .int .i64 qa, .int .i64 bu, .int .i64 le, .int .i64 pb, .int .i64 pc, .int .i64 pj, .int .i64 1000, .int .i64 0, .int .i64 0, .slice ea10 0 ec10, .slice ka10 n kc10, .int .i64 0, .slice fa10 n fc10, .slice ra10 0 rc10, .int .i64 0, .int .i64 0, .int .i64 0] rfl HB8.out sizeGate rfl rfl ?_
    intro v3 hXb hgV hlV
    replace HX := Lib.hid (HX.out.grown hgV (fun e => by injection e; have := HK8.out; omega))
    replace HG0 := Lib.hid (HG0.out.grown hgV (fun e => by injection e; have := HK8.out; omega))
    have hbw := hlV wd.heap.size wd HW8.out HWB.out
    replace HEG := Lib.hid (HEGd.out.below hbw)
    replace HGI := Lib.hid (HGId.out.here hbw)
    replace HL := Lib.hid (low_after HLd.out hbw)
    clear hbw hXb hgV hlV hHeld
    refine hKS.out _ _ (HG0.out) (fun hHeld => ?_)
    clear hKS
    try simp only [Act.put, List.setIfInBounds_toArray, List.set_cons_zero, List.set_cons_succ]
    refine wpAnyH_take (i := 11) (oi := { dst := some _, op := _, type := _, pos := _, after := _, guard := _ }) (v := ?_) rfl (by kernel_rfl) (by kernel_rfl) (by kernel_rfl) (fun _ _ _ h => h) ?_ (by with_reducible assumption) ?_
    rotate_left 1
    focus (refine Or.inl ⟨by rfl, ?_⟩; intro wq hSw; go_simp; try with_reducible rfl)
    try simp only [Act.put, List.setIfInBounds_toArray, List.set_cons_zero, List.set_cons_succ]
    refine wpAnyH_take (i := 12) (oi := { dst := some _, op := _, type := _, pos := _, after := _, guard := _ }) (v := ?_) rfl (by kernel_rfl) (by kernel_rfl) (by kernel_rfl) (fun _ _ _ h => h) ?_ (by with_reducible assumption) ?_
    rotate_left 1
    focus (refine Or.inl ⟨by rfl, ?_⟩; intro wq hSw; go_simp; try with_reducible rfl)
    try simp only [Act.put, List.setIfInBounds_toArray, List.set_cons_zero, List.set_cons_succ]
    refine wpAnyH_done (by kernel_rfl) ?_ _
    clear hHeld HWW HWB HEGd HGId HLd hsl hsz1 hadd
    go_wp2_with (first | (refine wpList_load_box rfl _ 32 rfl rfl HG0.out _ Tryz.underlying32 sizeGate ?_) | fail)
    refine (recv_new _ n qu wi ti qa bu le pb pc pj none 0 (some ⟨gk, 0, none⟩) n (some ⟨gf, 0, none⟩) n none 0 _ far hn10 hs3.out HEG.out HGI.out HOK.out hc3.out).mono ?_
    rintro e u2 ⟨⟨ea2, ec2, ka2, kc2, fa2, fc2, ra2, rc2, rfl⟩, hb⟩
    replace HX := Lib.hid (HX.out.below hb)
    replace HG0 := Lib.hid (HG0.out.below hb)
    replace HEG := Lib.hid (HEG.out.below hb)
    replace HGI := Lib.hid (HGI.out.here hb)
    replace HL := Lib.hid (low_after HL.out hb)
    clear hb
    go_upto_region 11 with (first | (refine wpList_store_box rfl _ _ 32 rfl rfl [.int .i64 n, .int .i64 qu, .int .i64 wi, .int .i64 ti, .int .i64 qa, .int .i64 bu, .int .i64 le, .int .i64 pb, .int .i64 pc, .int .i64 pj, .int .i64 1000, .int .i64 0, .int .i64 0, .slice ea2 0 ec2, .slice ka2 n kc2, .int .i64 0, .slice fa2 n fc2, .slice ra2 0 rc2, .int .i64 0, .int .i64 0, .int .i64 0] rfl (Box.new _ [.int .i64 0, .int .i64 0, .int .i64 0, .int .i64 0, .int .i64 0, .int .i64 0, .int .i64 0, .int .i64 0, .int .i64 0, .int .i64 0, .int .i64 0, .int .i64 0, .int .i64 0, .slice none 0 0, .slice none 0 0, .int .i64 0, .slice none 0 0, .slice none 0 0, .int .i64 0, .int .i64 0, .int .i64 0] 32) sizeGate rfl rfl ?_; intro V2 hXb hgV hlV; have HBV := Lib.hid (hlV u2.heap.size u2 (Nat.le_refl _) (bOne u2 _)); clear hXb hgV hlV) | fail)
    try simp only [Act.put]
    replace HX := Lib.hid (HX.out.below HBV.out)
    replace HG0 := Lib.hid (HG0.out.below HBV.out)
    replace HEG := Lib.hid (HEG.out.below HBV.out)
    replace HGI := Lib.hid (HGI.out.here HBV.out)
    replace HL := Lib.hid (low_after HL.out HBV.out)
    clear HBV
    go_wp2_with (first | (refine wpList_load_box rfl _ 32 rfl rfl HG0.out _ Tryz.underlying32 sizeGate ?_) | fail)
    refine (recv_new _ n qu wi ti qa bu le pb pc pj none 0 (some ⟨gk, 0, none⟩) n (some ⟨gf, 0, none⟩) n none 0 _ odd hn10 hs4.out HEG.out HGI.out HOK.out hc4.out).mono ?_
    rintro e u3 ⟨⟨ea3, ec3, ka3, kc3, fa3, fc3, ra3, rc3, rfl⟩, hb⟩
    replace HX := Lib.hid (HX.out.below hb)
    replace HG0 := Lib.hid (HG0.out.below hb)
    replace HEG := Lib.hid (HEG.out.below hb)
    replace HGI := Lib.hid (HGI.out.here hb)
    replace HL := Lib.hid (low_after HL.out hb)
    clear hb
    go_upto_region 12 with (first | (refine wpList_store_box rfl _ _ 32 rfl rfl [.int .i64 n, .int .i64 qu, .int .i64 wi, .int .i64 ti, .int .i64 qa, .int .i64 bu, .int .i64 le, .int .i64 pb, .int .i64 pc, .int .i64 pj, .int .i64 1000, .int .i64 0, .int .i64 0, .slice ea3 0 ec3, .slice ka3 n kc3, .int .i64 0, .slice fa3 n fc3, .slice ra3 0 rc3, .int .i64 0, .int .i64 0, .int .i64 0] rfl (Box.new _ [.int .i64 0, .int .i64 0, .int .i64 0, .int .i64 0, .int .i64 0, .int .i64 0, .int .i64 0, .int .i64 0, .int .i64 0, .int .i64 0, .int .i64 0, .int .i64 0, .int .i64 0, .slice none 0 0, .slice none 0 0, .int .i64 0, .slice none 0 0, .slice none 0 0, .int .i64 0, .int .i64 0, .int .i64 0] 32) sizeGate rfl rfl ?_; intro V3 hXb hgV hlV; have HBV := Lib.hid (hlV u3.heap.size u3 (Nat.le_refl _) (bOne u3 _)); clear hXb hgV hlV) | fail)
    try simp only [Act.put]
    replace HX := Lib.hid (HX.out.below HBV.out)
    replace HG0 := Lib.hid (HG0.out.below HBV.out)
    replace HEG := Lib.hid (HEG.out.below HBV.out)
    replace HGI := Lib.hid (HGI.out.here HBV.out)
    replace HL := Lib.hid (low_after HL.out HBV.out)
    clear HBV
    go_wp2_with (first | (refine wpList_load_box rfl _ 32 rfl rfl HG0.out _ Tryz.underlying32 sizeGate ?_) | fail)
    refine (recv_new _ n qu wi ti qa bu le pb pc pj none 0 (some ⟨gk, 0, none⟩) n (some ⟨gf, 0, none⟩) n none 0 _ near hn10 hs5.out HEG.out HGI.out HOK.out hc5.out).mono ?_
    rintro e u4 ⟨⟨ea4, ec4, ka4, kc4, fa4, fc4, ra4, rc4, rfl⟩, hb⟩
    replace HX := Lib.hid (HX.out.below hb)
    replace HG0 := Lib.hid (HG0.out.below hb)
    replace HEG := Lib.hid (HEG.out.below hb)
    replace HGI := Lib.hid (HGI.out.here hb)
    replace HL := Lib.hid (low_after HL.out hb)
    clear hb
    go_upto_region 13 with (first | (refine wpList_store_box rfl _ _ 32 rfl rfl [.int .i64 n, .int .i64 qu, .int .i64 wi, .int .i64 ti, .int .i64 qa, .int .i64 bu, .int .i64 le, .int .i64 pb, .int .i64 pc, .int .i64 pj, .int .i64 1000, .int .i64 0, .int .i64 0, .slice ea4 0 ec4, .slice ka4 n kc4, .int .i64 0, .slice fa4 n fc4, .slice ra4 0 rc4, .int .i64 0, .int .i64 0, .int .i64 0] rfl (Box.new _ [.int .i64 0, .int .i64 0, .int .i64 0, .int .i64 0, .int .i64 0, .int .i64 0, .int .i64 0, .int .i64 0, .int .i64 0, .int .i64 0, .int .i64 0, .int .i64 0, .int .i64 0, .slice none 0 0, .slice none 0 0, .int .i64 0, .slice none 0 0, .slice none 0 0, .int .i64 0, .int .i64 0, .int .i64 0] 32) sizeGate rfl rfl ?_; intro V4 hXb hgV hlV; have HBV := Lib.hid (hlV u4.heap.size u4 (Nat.le_refl _) (bOne u4 _)); clear hXb hgV hlV) | fail)
    try simp only [Act.put]
    replace HX := Lib.hid (HX.out.below HBV.out)
    replace HG0 := Lib.hid (HG0.out.below HBV.out)
    replace HEG := Lib.hid (HEG.out.below HBV.out)
    replace HGI := Lib.hid (HGI.out.here HBV.out)
    replace HL := Lib.hid (low_after HL.out HBV.out)
    clear HBV
    go_wp2_with (first | (refine wpList_load_box rfl _ 32 rfl rfl HG0.out _ Tryz.underlying32 sizeGate ?_) | fail)
    refine (recv_zero _ far hs3.out HEG.out).mono ?_
    rintro e u5 ⟨⟨ea5, ec5, ka5, kc5, fa5, fc5, ra5, rc5, rfl⟩, hb⟩
    replace HX := Lib.hid (HX.out.below hb)
    replace HG0 := Lib.hid (HG0.out.below hb)
    replace HEG := Lib.hid (HEG.out.below hb)
    replace HGI := Lib.hid (HGI.out.here hb)
    replace HL := Lib.hid (low_after HL.out hb)
    clear hb
    go_upto_region 14 with (first | (refine wpList_store_box rfl _ _ 32 rfl rfl [.int .i64 0, .int .i64 0, .int .i64 0, .int .i64 0, .int .i64 0, .int .i64 0, .int .i64 0, .int .i64 0, .int .i64 0, .int .i64 0, .int .i64 0, .int .i64 0, .int .i64 0, .slice ea5 0 ec5, .slice ka5 0 kc5, .int .i64 0, .slice fa5 0 fc5, .slice ra5 0 rc5, .int .i64 0, .int .i64 0, .int .i64 0] rfl (Box.new _ [.int .i64 0, .int .i64 0, .int .i64 0, .int .i64 0, .int .i64 0, .int .i64 0, .int .i64 0, .int .i64 0, .int .i64 0, .int .i64 0, .int .i64 0, .int .i64 0, .int .i64 0, .slice none 0 0, .slice none 0 0, .int .i64 0, .slice none 0 0, .slice none 0 0, .int .i64 0, .int .i64 0, .int .i64 0] 32) sizeGate rfl rfl ?_; intro V5 hXb hgV hlV; have HBV := Lib.hid (hlV u5.heap.size u5 (Nat.le_refl _) (bOne u5 _)); clear hXb hgV hlV) | fail)
    try simp only [Act.put]
    replace HX := Lib.hid (HX.out.below HBV.out)
    replace HG0 := Lib.hid (HG0.out.below HBV.out)
    replace HEG := Lib.hid (HEG.out.below HBV.out)
    replace HGI := Lib.hid (HGI.out.here HBV.out)
    replace HL := Lib.hid (low_after HL.out HBV.out)
    clear HBV
    go_wp2_with (first | (refine wpList_load_box rfl _ 32 rfl rfl HG0.out _ Tryz.underlying32 sizeGate ?_) | fail)
    refine (subm_new _ n qu wi ti qa bu le pb pc pj none 0 (some ⟨gk, 0, none⟩) n (some ⟨gf, 0, none⟩) n none 0 0 0 0 3 ⟨#[]⟩ hn10 (by decide) HEG.out HGI.out HOK.out (su_c) (by decide)).mono ?_
    rintro e u6 ⟨⟨ea6, ec6, ka6, kc6, fa6, fc6, ra6, rc6, rfl⟩, hb⟩
    replace HX := Lib.hid (HX.out.below hb)
    replace HG0 := Lib.hid (HG0.out.below hb)
    replace HEG := Lib.hid (HEG.out.below hb)
    replace HGI := Lib.hid (HGI.out.here hb)
    replace HL := Lib.hid (low_after HL.out hb)
    clear hb
    go_upto_region 15 with (first | (refine wpList_store_box rfl _ _ 32 rfl rfl [.int .i64 n, .int .i64 qu, .int .i64 wi, .int .i64 ti, .int .i64 qa, .int .i64 bu, .int .i64 le, .int .i64 pb, .int .i64 pc, .int .i64 pj, .int .i64 1000, .int .i64 0, .int .i64 0, .slice ea6 0 ec6, .slice ka6 n kc6, .int .i64 0, .slice fa6 n fc6, .slice ra6 0 rc6, .int .i64 0, .int .i64 0, .int .i64 0] rfl (Box.new _ [.int .i64 0, .int .i64 0, .int .i64 0, .int .i64 0, .int .i64 0, .int .i64 0, .int .i64 0, .int .i64 0, .int .i64 0, .int .i64 0, .int .i64 0, .int .i64 0, .int .i64 0, .slice none 0 0, .slice none 0 0, .int .i64 0, .slice none 0 0, .slice none 0 0, .int .i64 0, .int .i64 0, .int .i64 0] 32) sizeGate rfl rfl ?_; intro V6 hXb hgV hlV; have HBV := Lib.hid (hlV u6.heap.size u6 (Nat.le_refl _) (bOne u6 _)); clear hXb hgV hlV) | fail)
    try simp only [Act.put]
    replace HX := Lib.hid (HX.out.below HBV.out)
    replace HG0 := Lib.hid (HG0.out.below HBV.out)
    replace HEG := Lib.hid (HEG.out.below HBV.out)
    replace HGI := Lib.hid (HGI.out.here HBV.out)
    replace HL := Lib.hid (low_after HL.out HBV.out)
    clear HBV
    go_wp2_with (first | (refine wpList_load_box rfl _ 32 rfl rfl HG0.out _ Tryz.underlying32 sizeGate ?_) | fail)
    refine (subm_new _ n qu wi ti qa bu le pb pc pj none 0 (some ⟨gk, 0, none⟩) n (some ⟨gf, 0, none⟩) n none 0 1 0 0 4 ⟨#[]⟩ hn10 (by decide) HEG.out HGI.out HOK.out (sv_c hn1) (by decide)).mono ?_
    rintro e u7 ⟨⟨ea7, ec7, ka7, kc7, fa7, fc7, ra7, rc7, rfl⟩, hb⟩
    replace HX := Lib.hid (HX.out.below hb)
    replace HG0 := Lib.hid (HG0.out.below hb)
    replace HEG := Lib.hid (HEG.out.below hb)
    replace HGI := Lib.hid (HGI.out.here hb)
    replace HL := Lib.hid (low_after HL.out hb)
    clear hb
    go_upto_region 16 with (first | (refine wpList_store_box rfl _ _ 32 rfl rfl [.int .i64 n, .int .i64 qu, .int .i64 wi, .int .i64 ti, .int .i64 qa, .int .i64 bu, .int .i64 le, .int .i64 pb, .int .i64 pc, .int .i64 pj, .int .i64 1000, .int .i64 0, .int .i64 0, .slice ea7 0 ec7, .slice ka7 n kc7, .int .i64 0, .slice fa7 n fc7, .slice ra7 0 rc7, .int .i64 0, .int .i64 0, .int .i64 0] rfl (Box.new _ [.int .i64 0, .int .i64 0, .int .i64 0, .int .i64 0, .int .i64 0, .int .i64 0, .int .i64 0, .int .i64 0, .int .i64 0, .int .i64 0, .int .i64 0, .int .i64 0, .int .i64 0, .slice none 0 0, .slice none 0 0, .int .i64 0, .slice none 0 0, .slice none 0 0, .int .i64 0, .int .i64 0, .int .i64 0] 32) sizeGate rfl rfl ?_; intro V7 hXb hgV hlV; have HBV := Lib.hid (hlV u7.heap.size u7 (Nat.le_refl _) (bOne u7 _)); clear hXb hgV hlV) | fail)
    try simp only [Act.put]
    replace HX := Lib.hid (HX.out.below HBV.out)
    replace HG0 := Lib.hid (HG0.out.below HBV.out)
    replace HEG := Lib.hid (HEG.out.below HBV.out)
    replace HGI := Lib.hid (HGI.out.here HBV.out)
    replace HL := Lib.hid (low_after HL.out HBV.out)
    clear HBV
    go_wp2_with (first | (refine wpList_load_box rfl _ 32 rfl rfl HG0.out _ Tryz.underlying32 sizeGate ?_) | fail)
    refine (subm_new _ n qu wi ti qa bu le pb pc pj none 0 (some ⟨gk, 0, none⟩) n (some ⟨gf, 0, none⟩) n none 0 1 1 0 6 ⟨#[]⟩ hn10 (by decide) HEG.out HGI.out HOK.out (sw_c hn1) (by decide)).mono ?_
    rintro e u8 ⟨⟨ea8, ec8, ka8, kc8, fa8, fc8, ra8, rc8, rfl⟩, hb⟩
    replace HX := Lib.hid (HX.out.below hb)
    replace HG0 := Lib.hid (HG0.out.below hb)
    replace HEG := Lib.hid (HEG.out.below hb)
    replace HGI := Lib.hid (HGI.out.here hb)
    replace HL := Lib.hid (low_after HL.out hb)
    clear hb
    go_upto_region 17 with (first | (refine wpList_store_box rfl _ _ 32 rfl rfl [.int .i64 n, .int .i64 qu, .int .i64 wi, .int .i64 ti, .int .i64 qa, .int .i64 bu, .int .i64 le, .int .i64 pb, .int .i64 pc, .int .i64 pj, .int .i64 1000, .int .i64 0, .int .i64 0, .slice ea8 0 ec8, .slice ka8 n kc8, .int .i64 0, .slice fa8 n fc8, .slice ra8 0 rc8, .int .i64 0, .int .i64 0, .int .i64 0] rfl (Box.new _ [.int .i64 0, .int .i64 0, .int .i64 0, .int .i64 0, .int .i64 0, .int .i64 0, .int .i64 0, .int .i64 0, .int .i64 0, .int .i64 0, .int .i64 0, .int .i64 0, .int .i64 0, .slice none 0 0, .slice none 0 0, .int .i64 0, .slice none 0 0, .slice none 0 0, .int .i64 0, .int .i64 0, .int .i64 0] 32) sizeGate rfl rfl ?_; intro V8 hXb hgV hlV; have HBV := Lib.hid (hlV u8.heap.size u8 (Nat.le_refl _) (bOne u8 _)); clear hXb hgV hlV) | fail)
    try simp only [Act.put]
    replace HX := Lib.hid (HX.out.below HBV.out)
    replace HG0 := Lib.hid (HG0.out.below HBV.out)
    replace HEG := Lib.hid (HEG.out.below HBV.out)
    replace HGI := Lib.hid (HGI.out.here HBV.out)
    replace HL := Lib.hid (low_after HL.out HBV.out)
    clear HBV
    have x10 := HX.out.cell 10 _ rfl
    have hw1 : IntKind.i64.wrap (1000 + 1) = 1001 := by decide
    go_wp2_with (first | (refine wpList_load_box rfl _ 32 rfl rfl HG0.out _ Tryz.underlying32 sizeGate ?_) | fail)
    refine (subm_new _ n qu wi ti qa bu le pb pc pj none 0 (some ⟨gk, 0, none⟩) n (some ⟨gf, 0, none⟩) n none 0 1 1 1001 6 ⟨#[]⟩ hn10 (by decide) HEG.out HGI.out HOK.out (sx_c hn1) (by decide)).mono ?_
    rintro e u9 ⟨⟨ea9, ec9, ka9, kc9, fa9, fc9, ra9, rc9, rfl⟩, hb⟩
    replace HX := Lib.hid (HX.out.below hb)
    replace HG0 := Lib.hid (HG0.out.below hb)
    replace HEG := Lib.hid (HEG.out.below hb)
    replace HGI := Lib.hid (HGI.out.here hb)
    replace HL := Lib.hid (low_after HL.out hb)
    clear hb
    go_upto_region 18 with (first | (refine wpList_store_box rfl _ _ 32 rfl rfl [.int .i64 n, .int .i64 qu, .int .i64 wi, .int .i64 ti, .int .i64 qa, .int .i64 bu, .int .i64 le, .int .i64 pb, .int .i64 pc, .int .i64 pj, .int .i64 1000, .int .i64 0, .int .i64 0, .slice ea9 0 ec9, .slice ka9 n kc9, .int .i64 0, .slice fa9 n fc9, .slice ra9 0 rc9, .int .i64 0, .int .i64 0, .int .i64 0] rfl (Box.new _ [.int .i64 0, .int .i64 0, .int .i64 0, .int .i64 0, .int .i64 0, .int .i64 0, .int .i64 0, .int .i64 0, .int .i64 0, .int .i64 0, .int .i64 0, .int .i64 0, .int .i64 0, .slice none 0 0, .slice none 0 0, .int .i64 0, .slice none 0 0, .slice none 0 0, .int .i64 0, .int .i64 0, .int .i64 0] 32) sizeGate rfl rfl ?_; intro V9 hXb hgV hlV; have HBV := Lib.hid (hlV u9.heap.size u9 (Nat.le_refl _) (bOne u9 _)); clear hXb hgV hlV) | fail)
    try simp only [Act.put]
    replace HX := Lib.hid (HX.out.below HBV.out)
    replace HG0 := Lib.hid (HG0.out.below HBV.out)
    replace HEG := Lib.hid (HEG.out.below HBV.out)
    replace HGI := Lib.hid (HGI.out.here HBV.out)
    replace HL := Lib.hid (low_after HL.out HBV.out)
    clear HBV
    clear x10
    go_wp2_with fail
    go_ret
    exact ⟨rfl, HL.out⟩
end Go.Proofs.YtkndpkingmemoaaGreatDoor.Gat
