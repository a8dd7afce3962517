/-
  The walk of the law FnRejoin.
-/
import Derived.Test.YtkndpkingmemoaaDoorRjAm
import Derived.Test.YtkndpkingmemoaaDoorMgx
import Derived.Deep.DeepCutAuto
namespace Go.Proofs.YtkndpkingmemoaaDoor.Gat
open Go.RowKit Go.Proofs.YtkndpkingmemoaaDoor.Kit Go.Proofs.YtkndpkingmemoaaDoor.Draw
open Lnk (bOne bAfter IOwn IIs below_keep below_drew' bcell low_after low_alloc grown_of_below)
set_option linter.unusedVariables false
set_option linter.unusedSimpArgs false

set_option maxRecDepth 100000 in
set_option maxHeartbeats 8000000 in
theorem fnRejoin_walk (w : World) (a0 : Option Addr) (len0 cap0 : Nat) (zs : List Int) (hrow : IsRow .u8 w a0 len0 cap0 zs) (hg : ErrT w) :
    Calls Tryd.prog 4 #[.slice a0 len0 cap0] w fun e w' => e = .returned (.bool true) ∧ Below w.heap.size w w' := by
  have hcode := hrow.code
  have hle := hcode.le
  have HC := Lib.hid hcode
  have HLE := Lib.hid hle
  have HEG := Lib.hid hg
  clear hrow hcode hle hg
  go_enter Tryd.func4, Tryd.ntmps4
  by_cases hbig : (1048576 : Int) < (len0 : Int)
  · go_wp2_with fail
    refine (big_yes _ a0 len0 cap0 HLE.out hbig).mono ?_
    rintro e w' ⟨rfl, rfl⟩
    go_wp2_with fail
    go_ret
    exact ⟨rfl, Below.refl _ _⟩
  go_wp2_with fail
  refine (big_no _ a0 len0 cap0 HLE.out (by omega)).mono ?_
  rintro e w' ⟨rfl, rfl⟩
  clear hbig
  go_wp2_with fail
  refine (config_any w a0 len0 cap0 HC.out).mono ?_
  rintro e w1 ⟨⟨de, qu, wi, ti, qa, bu, le, pb, pc, pj, rfl, hcl⟩, hb⟩
  obtain ⟨n, rfl⟩ : ∃ n : Nat, de = (n : Int) := ⟨de.toNat, by have := hcl.1; omega⟩
  have hn1 : 1 ≤ n := by have := hcl.1; omega
  have hn3 : n ≤ 3 := by have := hcl.1; omega
  have hn10 : n ≤ 1000 := by omega
  have HCL := Lib.hid hcl
  have HL := Lib.hid hb
  clear hcl hb
  obtain ⟨kc, hkc⟩ : ∃ k, k = w1.heap.size := ⟨_, rfl⟩
  have HKC := Lib.hid (show w.heap.size ≤ kc by rw [hkc]; exact HL.out.size)
  go_upto_region 4 with (first | (refine wpList_store_box rfl _ _ 27 rfl rfl [.int .i64 n, .int .i64 qu, .int .i64 wi, .int .i64 ti, .int .i64 qa, .int .i64 bu, .int .i64 le, .int .i64 pb, .int .i64 pc, .int .i64 pj, .int .i64 1000] rfl (Box.new _ [.int .i64 0, .int .i64 0, .int .i64 0, .int .i64 0, .int .i64 0, .int .i64 0, .int .i64 0, .int .i64 0, .int .i64 0, .int .i64 0, .int .i64 0] 27) sizeCfg rfl rfl ?_; intro V hXb hgV hlV; have HX := Lib.hid hXb; have HBV := Lib.hid (hlV w1.heap.size w1 (Nat.le_refl _) (bOne w1 _)); clear hXb hgV hlV) | fail)
  try simp only [Act.put]
  replace HL := Lib.hid (low_after HL.out HBV.out)
  rw [← hkc] at HX ⊢
  clear HBV hkc
  go_wp2_with (first | (refine wpList_load_box rfl _ 27 rfl rfl HX.out _ Tryd.underlying27 sizeCfg ?_) | fail)
  refine (implNew_yes _ n qu wi ti qa bu le pb pc pj 1000 hn10 (cfgB_yes HCL.out.ok)).mono ?_
  rintro e w2 ⟨⟨gk, gf, rfl, hk, hf⟩, hb⟩
  have HGI := Lib.hid (gis_new0 hn10 (lis_rep hk) (Lnk.IOwn.isN hf))
  replace HX := Lib.hid (HX.out.below hb)
  replace HL := Lib.hid (low_after HL.out hb)
  clear hb hk hf
  obtain ⟨kg, hkg⟩ : ∃ k, k = w2.heap.size := ⟨_, rfl⟩
  have HKG := Lib.hid (show w.heap.size ≤ kg by rw [hkg]; exact HL.out.size)
  have HNE := Lib.hid (show kc < kg by rw [hkg]; exact HX.out.lt)
  go_upto_region 5 with (first | (refine wpList_store_box rfl _ _ 33 rfl rfl [.int .i64 n, .int .i64 qu, .int .i64 wi, .int .i64 ti, .int .i64 qa, .int .i64 bu, .int .i64 le, .int .i64 pb, .int .i64 pc, .int .i64 pj, .int .i64 1000, .int .i64 0, .int .i64 0, .slice none 0 0, .slice (some ⟨gk, 0, none⟩) n n, .int .i64 0, .slice (some ⟨gf, 0, none⟩) n n, .slice none 0 0, .int .i64 0, .int .i64 0, .int .i64 0] rfl (Box.new _ [.int .i64 0, .int .i64 0, .int .i64 0, .int .i64 0, .int .i64 0, .int .i64 0, .int .i64 0, .int .i64 0, .int .i64 0, .int .i64 0, .int .i64 0, .int .i64 0, .int .i64 0, .slice none 0 0, .slice none 0 0, .int .i64 0, .slice none 0 0, .slice none 0 0, .int .i64 0, .int .i64 0, .int .i64 0] 33) sizeGate rfl rfl ?_; intro V0 hXb hgV hlV; have HG0 := Lib.hid hXb; have HBV := Lib.hid (hlV w2.heap.size w2 (Nat.le_refl _) (bOne w2 _)); clear hXb hgV hlV) | fail)
  try simp only [Act.put]
  rw [← hkg] at HG0 ⊢
  replace HX := Lib.hid (HX.out.below HBV.out)
  replace HL := Lib.hid (low_after HL.out HBV.out)
  replace HGI := Lib.hid (HGI.out.here HBV.out)
  clear HBV hkg
  obtain ⟨wa, hwa⟩ : ∃ x, x = V0 := ⟨_, rfl⟩
  rw [← hwa] at HX HG0 HGI HL ⊢
  clear hwa
  have hb := below_drew' (Below.refl wa.heap.size wa)
  replace HX := Lib.hid (HX.out.below hb)
  replace HG0 := Lib.hid (HG0.out.below hb)
  replace HGI := Lib.hid (HGI.out.here hb)
  replace HL := Lib.hid (low_after HL.out hb)
  clear hb
  refine wp_region_held_drew (S := fun w' => w'.cell? ⟨kc, 0, none⟩ = some (.int .i64 n)) (by kernel_rfl) (HX.out.cell 0 _ rfl) (fun hHeld => ?_)
  obtain ⟨wd, hwd⟩ : ∃ x, x = wa.drew := ⟨_, rfl⟩
  rw [← hwd] at HX HG0 HGI HL hHeld ⊢
  clear hwd
  refine wpAnyH_take (i := 0) (oi := { dst := some _, op := _, type := _, pos := _, after := _, guard := _ }) (v := ?_) rfl (by kernel_rfl) (by kernel_rfl) (by kernel_rfl) (fun _ _ _ h => h) ?_ (by with_reducible assumption) ?_
  rotate_left 1
  focus (refine Or.inl ⟨by rfl, ?_⟩; intro wq hSw; go_simp; try with_reducible rfl)
  try simp only [Act.put, List.setIfInBounds_toArray, List.set_cons_zero, List.set_cons_succ]
  refine wpAnyH_take (i := 2) (oi := { dst := some _, op := _, type := _, pos := _, after := _, guard := _ }) (v := ?_) rfl (by kernel_rfl) (by kernel_rfl) (by kernel_rfl) (fun _ _ _ h => h) ?_ (by with_reducible assumption) ?_
  rotate_left 1
  focus (refine Or.inl ⟨by rfl, ?_⟩; intro wq hSw; go_simp; try with_reducible rfl)
  try simp only [Act.put, List.setIfInBounds_toArray, List.set_cons_zero, List.set_cons_succ]
  refine wpAnyH_take (i := 3) (oi := { dst := some _, op := _, type := _, pos := _, after := _, guard := _ }) (v := ?_) rfl (by kernel_rfl) (by kernel_rfl) (by kernel_rfl) (fun _ _ _ h => h) ?_ (by with_reducible assumption) ?_
  rotate_left 1
  focus (refine Or.inl ⟨by rfl, ?_⟩; intro wq hSw; have q0 := hSw; go_simp; try with_reducible rfl)
  try simp only [Act.put, List.setIfInBounds_toArray, List.set_cons_zero, List.set_cons_succ]
  refine wpAnyH_ready (rs := [1]) (by kernel_rfl) (by simp) ?_
  refine AllReadyH.cons rfl (fun KA hKA => ?_) AllReadyH.nil
  go_simp
  refine (at_draw wd w.heap.size a0 len0 cap0 (HC.out.below HL.out) 10 (by omega)).mono ?_
  rintro e v ⟨⟨z, hz0, hz1, rfl⟩, hvw⟩
  subst hvw
  clear hHeld
  dsimp only
  refine hKA.out _ _ ((HX.out.cell 0 _ rfl)) (fun hHeld => ?_)
  clear hKA
  try simp only [Act.put, List.setIfInBounds_toArray, List.set_cons_zero, List.set_cons_succ]
  obtain ⟨r, hr⟩ : ∃ r, Int.tmod z n = r := ⟨_, rfl⟩
  have hr0 : 0 ≤ r := by rw [← hr]; exact Int.tmod_nonneg _ hz0
  have hr1 : r < n := by rw [← hr]; exact Int.tmod_lt_of_pos _ (by omega)
  have hwr : IntKind.i64.wrap r = r := IntWalk.i64_in _ (by omega)
  obtain ⟨m, hm⟩ : ∃ m : Nat, r = (m : Int) := ⟨r.toNat, by omega⟩
  obtain ⟨d, hd⟩ : ∃ q, q = 1 + r := ⟨_, rfl⟩
  have hwq : IntKind.i64.wrap (1 + r) = d := by rw [← hd]; exact IntWalk.i64_in _ (by omega)
  have hnz : ¬ (n : Int) = 0 := by omega
  have hnz2 : ¬ n = 0 := by omega
  have HD := Lib.hid (show d = (m : Int) + 1 by omega)
  have hmn : m < n := by omega
  clear hd hm
  refine wpAnyH_take (i := 4) (oi := { dst := some _, op := _, type := _, pos := _, after := _, guard := _ }) (v := ?_) rfl (by kernel_rfl) (by kernel_rfl) (by kernel_rfl) (fun _ _ _ h => h) ?_ (by with_reducible assumption) ?_
  rotate_left 1
  focus (refine Or.inl ⟨by rfl, ?_⟩; intro wq hSw; go_simp; try with_reducible rfl)
  try simp only [Act.put, List.setIfInBounds_toArray, List.set_cons_zero, List.set_cons_succ]
  refine wpAnyH_take (i := 5) (oi := { dst := some _, op := _, type := _, pos := _, after := _, guard := _ }) (v := ?_) rfl (by kernel_rfl) (by kernel_rfl) (by kernel_rfl) (fun _ _ _ h => h) ?_ (by with_reducible assumption) ?_
  rotate_left 1
  focus (refine Or.inl ⟨by rfl, ?_⟩; intro wq hSw; go_simp; try with_reducible rfl)
  try simp only [Act.put, List.setIfInBounds_toArray, List.set_cons_zero, List.set_cons_succ]
  refine wpAnyH_take (i := 6) (oi := { dst := some _, op := _, type := _, pos := _, after := _, guard := _ }) (v := ?_) rfl (by kernel_rfl) (by kernel_rfl) (by kernel_rfl) (fun _ _ _ h => h) ?_ (by with_reducible assumption) ?_
  rotate_left 1
  focus (refine Or.inl ⟨by rfl, ?_⟩; intro wq hSw; go_simp; try with_reducible rfl)
  try simp only [Act.put, List.setIfInBounds_toArray, List.set_cons_zero, List.set_cons_succ]
  refine wpAnyH_done (by kernel_rfl) ?_ _
  clear hHeld hz0 hz1 hr hr0 hr1 hwr hwq hnz hnz2
  go_wp2_with (first | (refine wpList_load_box rfl _ 33 rfl rfl HG0.out _ Tryd.underlying33 sizeGate ?_) | fail)
  refine (subm_rj wd n qu wi ti qa bu le pb pc pj none 0 (some ⟨gk, 0, none⟩) n (some ⟨gf, 0, none⟩) n none 0 d HCL.out (by have := HD.out; omega) (by have := HD.out; omega) (HEG.out.below HL.out) HGI.out).mono ?_
  rintro e u1 ⟨⟨ea1, ec1, ka1, kc1, fa1, fc1, ra1, rc1, vs1, rfl, ho⟩, hb⟩
  have HB1 := Lib.hid (show kg < wd.heap.size from HG0.out.lt)
  replace HX := Lib.hid (HX.out.below hb)
  replace HG0 := Lib.hid (HG0.out.below hb)
  replace HL := Lib.hid (low_after HL.out hb)
  clear hb HGI
  go_upto_region 7 with (first | (refine wpList_store_box rfl _ _ 33 rfl rfl [.int .i64 n, .int .i64 qu, .int .i64 wi, .int .i64 ti, .int .i64 qa, .int .i64 bu, .int .i64 le, .int .i64 pb, .int .i64 pc, .int .i64 pj, .int .i64 1000, .int .i64 0, .int .i64 1, .slice ea1 1 ec1, .slice ka1 n kc1, .int .i64 0, .slice fa1 n fc1, .slice ra1 0 rc1, .int .i64 1, .int .i64 0, .int .i64 0] rfl HG0.out sizeGate rfl rfl ?_; intro V1 hXb hgV hlV) | fail)
  replace HG0 := Lib.hid hXb
  replace HX := Lib.hid (HX.out.grown hgV (by have := HNE.out; simp; omega))
  replace HL := Lib.hid (hlV w.heap.size w (by have := HKG.out; omega) HL.out)
  have HGI := Lib.hid (ho.low hgV HB1.out).is
  clear hXb hgV hlV ho HB1
  go_wp2_with fail
  go_loopw [6, 7] (fun e6 i wr => ∃ (j : Nat) (ep : Int) (K : List Lk) (ea : Option Addr) (ec : Nat) (ka : Option Addr) (kc' : Nat) (fa : Option Addr) (fc : Nat) (ra : Option Addr) (rc : Nat), j ≤ 20 ∧ 0 ≤ ep ∧ ep ≤ j ∧ i = .int .i64 j ∧ e6 = .int .i64 ep ∧ Hid (RjK n K) ∧ Hid (∀ h : m < K.length, K[m].ep = ep) ∧ Hid (Box wr kg 33 [.int .i64 n, .int .i64 qu, .int .i64 wi, .int .i64 ti, .int .i64 qa, .int .i64 bu, .int .i64 le, .int .i64 pb, .int .i64 pc, .int .i64 pj, .int .i64 1000, .int .i64 0, .int .i64 1, .slice ea 1 ec, .slice ka n kc', .int .i64 0, .slice fa n fc, .slice ra 0 rc, .int .i64 1, .int .i64 0, .int .i64 0]) ∧ Hid (Box wr kc 27 [.int .i64 n, .int .i64 qu, .int .i64 wi, .int .i64 ti, .int .i64 qa, .int .i64 bu, .int .i64 le, .int .i64 pb, .int .i64 pc, .int .i64 pj, .int .i64 1000]) ∧ Hid (GIs wr.heap.size wr ea 1 ka n fa n ra 0 [evS1 d] K (List.replicate n 0) []) ∧ Hid (Below w.heap.size w wr)) (fun _ i _ => 20 - (intOf i).toNat)
  case atStart => exact ⟨0, 0, List.replicate n lk0, ea1, ec1, ka1, kc1, fa1, fc1, ra1, rc1, by omega, by omega, by omega, rfl, rfl, Lib.hid (rjk_new n), Lib.hid (fun h => by rw [List.getElem_replicate]; rfl), HG0, HX, HGI, HL⟩
  case round =>
    obtain ⟨j, ep, K, ea, ec, ka, kc', fa, fc, ra, rc, hj, hep0, hepj, rfl, rfl, HK, HEP, HG0, HX, HGI, HL⟩ := hrel
    by_cases hlt : (j : Int) < 20
    · have hmK : m < K.length := by rw [HK.out.1]; exact hmn
      go_wp2_with fail
      refine (at_draw wr w.heap.size a0 len0 cap0 (HC.out.below HL.out) j (by omega)).mono ?_
      rintro e v ⟨⟨z, hz0, hz1, rfl⟩, hvw⟩
      subst hvw
      obtain ⟨r, hr⟩ : ∃ r, Int.tmod z 3 = r := ⟨_, rfl⟩
      have hr0 : 0 ≤ r := by rw [← hr]; exact Int.tmod_nonneg _ hz0
      have hr1 : r < 3 := by rw [← hr]; exact Int.tmod_lt_of_pos _ (by omega)
      have hwr : IntKind.i64.wrap r = r := IntWalk.i64_in _ (by omega)
      cases h3 : decide ((0 : Int) < r) with
      | true =>
        have hwe : IntKind.i64.wrap (ep + 1) = ep + 1 := IntWalk.i64_in _ (by omega)
        go_wp2_with (first | (refine wpList_load_box rfl _ 33 rfl rfl HG0.out _ Tryd.underlying33 sizeGate ?_) | fail)
        refine (conn_rj _ n qu wi ti qa bu le pb pc pj ea ec ka kc' fa fc ra rc K d m HCL.out HK.out hmK HD.out (by rw [HEP.out hmK]; omega) HGI.out).mono ?_
        rintro e u2 ⟨⟨ea2, ec2, ka2, kc2, fa2, fc2, ra2, rc2, vs2, rfl, ho⟩, hb⟩
        have HB1 := Lib.hid (show kg < wr.heap.size from HG0.out.lt)
        replace HX := Lib.hid (HX.out.below hb)
        replace HG0 := Lib.hid (HG0.out.below hb)
        replace HL := Lib.hid (low_after HL.out hb)
        clear hb HGI
        rw [HEP.out hmK] at ho
        go_upto_region 16 with (first | (refine wpList_store_box rfl _ _ 33 rfl rfl [.int .i64 n, .int .i64 qu, .int .i64 wi, .int .i64 ti, .int .i64 qa, .int .i64 bu, .int .i64 le, .int .i64 pb, .int .i64 pc, .int .i64 pj, .int .i64 1000, .int .i64 0, .int .i64 1, .slice ea2 1 ec2, .slice ka2 n kc2, .int .i64 0, .slice fa2 n fc2, .slice ra2 0 rc2, .int .i64 1, .int .i64 0, .int .i64 0] rfl HG0.out sizeGate rfl rfl ?_; intro V2 hXb hgV hlV) | fail)
        replace HG0 := Lib.hid hXb
        replace HX := Lib.hid (HX.out.grown hgV (by have := HNE.out; simp; omega))
        replace HL := Lib.hid (hlV w.heap.size w (by have := HKG.out; omega) HL.out)
        have HGI := Lib.hid (ho.low hgV HB1.out).is
        clear hXb hgV hlV ho HB1
        obtain ⟨K2, hK2⟩ : ∃ X, X = K.set m ⟨true, ep + 1, 0, []⟩ := ⟨_, rfl⟩
        rw [← hK2] at HGI
        have HK2 := Lib.hid (show RjK n K2 by rw [hK2]; exact rjk_set HK.out m _ (by omega) (by omega) (by omega) (by omega))
        have hm2 : m < K2.length := by rw [HK2.out.1]; exact hmn
        have hat : K2[m] = ⟨true, ep + 1, 0, []⟩ := by
          have h1 : K2[m]? = some ⟨true, ep + 1, 0, []⟩ := by rw [hK2, List.getElem?_set_self hmK]
          rw [List.getElem?_eq_getElem hm2] at h1
          exact Option.some.inj h1
        have HEP2 := Lib.hid (show ∀ h : m < K2.length, K2[m].ep = (ep + 1) from fun h => by rw [hat])
        clear hK2
        obtain ⟨b, off, up, ep1, sq1, y, fa0, fl, fc0, rfl, hbl, hlj, hy, c4⟩ := HGI.out.lk.at m hm2
        rw [hat] at hlj
        simp only [Lk.mk.injEq] at hlj
        obtain ⟨rfl, rfl, rfl, -⟩ := hlj
        obtain ⟨y0, y1, y2, y3⟩ := c4
        have z14 := HG0.out.cell 14 _ rfl
        have x0 := HX.out.cell 0 _ rfl
        clear hbl hy hat
        have hwm : IntKind.i64.wrap (d - 1) = (m : Int) := by rw [show d - 1 = (m : Int) by have := HD.out; omega]; exact IntWalk.i64_in _ (by omega)
        have hmi : (m : Int) < (n : Int) := by omega
        go_wp2_with (first | (refine wpList_load_boxg (by kernel_rfl) _ 33 rfl rfl HG0.out _ Tryd.underlying33 sizeGate ?_) | fail)
        clear y0 y1 y2 y3 z14 x0
        refine (implOpenOf_any _ (n : Int) qu wi ti qa bu le pb pc pj 1000 0 1 ea2 1 ec2 (some ⟨b, off, none⟩) n kc2 0 fa2 n fc2 ra2 0 rc2 1 0 0 [evS1 d] K2 (List.replicate n 0) [] d HGI.out).mono ?_
        rintro e u3 ⟨rfl, hb⟩
        rw [open_one]
        replace HX := Lib.hid (HX.out.below hb)
        replace HG0 := Lib.hid (HG0.out.below hb)
        replace HL := Lib.hid (low_after HL.out hb)
        replace HGI := Lib.hid (HGI.out.here hb)
        clear hb
        go_wp2_with fail
        go_roundw
        case rel => exact ⟨j + 1, (ep + 1), K2, ea2, ec2, _, kc2, fa2, fc2, ra2, rc2, by omega, by omega, by omega, by go_num, rfl, HK2, HEP2, HG0, HX, HGI, HL⟩
        case measure => simp [intOf]; omega
      | false =>
        obtain ⟨sq, hsq⟩ : ∃ x, x = K[m].sq := ⟨_, rfl⟩
        have hsb : 0 ≤ sq ∧ sq ≤ 60000 := by have := rjk_bd HK.out (List.getElem_mem hmK); rw [hsq]; omega
        have HSQ := Lib.hid hsq
        clear hsq
        go_wp2_with (first | (refine wpList_load_box rfl _ 33 rfl rfl HG0.out _ Tryd.underlying33 sizeGate ?_) | fail)
        refine (disc_rj _ n qu wi ti qa bu le pb pc pj ea ec ka kc' fa fc ra rc K d m HCL.out HK.out hmK HD.out HGI.out).mono ?_
        rintro e u2 ⟨⟨ea2, ec2, ka2, kc2, fa2, fc2, ra2, rc2, vs2, rfl, ho⟩, hb⟩
        have HB1 := Lib.hid (show kg < wr.heap.size from HG0.out.lt)
        replace HX := Lib.hid (HX.out.below hb)
        replace HG0 := Lib.hid (HG0.out.below hb)
        replace HL := Lib.hid (low_after HL.out hb)
        clear hb HGI
        rw [HEP.out hmK, ← HSQ.out] at ho
        go_upto_region 16 with (first | (refine wpList_store_box rfl _ _ 33 rfl rfl [.int .i64 n, .int .i64 qu, .int .i64 wi, .int .i64 ti, .int .i64 qa, .int .i64 bu, .int .i64 le, .int .i64 pb, .int .i64 pc, .int .i64 pj, .int .i64 1000, .int .i64 0, .int .i64 1, .slice ea2 1 ec2, .slice ka2 n kc2, .int .i64 0, .slice fa2 n fc2, .slice ra2 0 rc2, .int .i64 1, .int .i64 0, .int .i64 0] rfl HG0.out sizeGate rfl rfl ?_; intro V2 hXb hgV hlV) | fail)
        replace HG0 := Lib.hid hXb
        replace HX := Lib.hid (HX.out.grown hgV (by have := HNE.out; simp; omega))
        replace HL := Lib.hid (hlV w.heap.size w (by have := HKG.out; omega) HL.out)
        have HGI := Lib.hid (ho.low hgV HB1.out).is
        clear hXb hgV hlV ho HB1
        obtain ⟨K2, hK2⟩ : ∃ X, X = K.set m ⟨false, ep, sq, []⟩ := ⟨_, rfl⟩
        rw [← hK2] at HGI
        have HK2 := Lib.hid (show RjK n K2 by rw [hK2]; exact rjk_set HK.out m _ (by omega) (by omega) (by omega) (by omega))
        have hm2 : m < K2.length := by rw [HK2.out.1]; exact hmn
        have hat : K2[m] = ⟨false, ep, sq, []⟩ := by
          have h1 : K2[m]? = some ⟨false, ep, sq, []⟩ := by rw [hK2, List.getElem?_set_self hmK]
          rw [List.getElem?_eq_getElem hm2] at h1
          exact Option.some.inj h1
        have HEP2 := Lib.hid (show ∀ h : m < K2.length, K2[m].ep = ep from fun h => by rw [hat])
        clear hK2
        obtain ⟨b, off, up, ep1, sq1, y, fa0, fl, fc0, rfl, hbl, hlj, hy, c4⟩ := HGI.out.lk.at m hm2
        rw [hat] at hlj
        simp only [Lk.mk.injEq] at hlj
        obtain ⟨rfl, rfl, rfl, -⟩ := hlj
        obtain ⟨y0, y1, y2, y3⟩ := c4
        have z14 := HG0.out.cell 14 _ rfl
        have x0 := HX.out.cell 0 _ rfl
        clear hbl hy hat
        have hwm : IntKind.i64.wrap (d - 1) = (m : Int) := by rw [show d - 1 = (m : Int) by have := HD.out; omega]; exact IntWalk.i64_in _ (by omega)
        have hmi : (m : Int) < (n : Int) := by omega
        go_wp2_with (first | (refine wpList_load_boxg (by kernel_rfl) _ 33 rfl rfl HG0.out _ Tryd.underlying33 sizeGate ?_) | fail)
        clear y0 y1 y2 y3 z14 x0
        refine (implOpenOf_any _ (n : Int) qu wi ti qa bu le pb pc pj 1000 0 1 ea2 1 ec2 (some ⟨b, off, none⟩) n kc2 0 fa2 n fc2 ra2 0 rc2 1 0 0 [evS1 d] K2 (List.replicate n 0) [] d HGI.out).mono ?_
        rintro e u3 ⟨rfl, hb⟩
        rw [open_one]
        replace HX := Lib.hid (HX.out.below hb)
        replace HG0 := Lib.hid (HG0.out.below hb)
        replace HL := Lib.hid (low_after HL.out hb)
        replace HGI := Lib.hid (HGI.out.here hb)
        clear hb
        go_wp2_with fail
        go_roundw
        case rel => exact ⟨j + 1, ep, K2, ea2, ec2, _, kc2, fa2, fc2, ra2, rc2, by omega, by omega, by omega, by go_num, rfl, HK2, HEP2, HG0, HX, HGI, HL⟩
        case measure => simp [intOf]; omega
    · obtain rfl : j = 20 := by omega
      clear hlt hj
      go_wp2_with (first | (refine wpList_load_box rfl _ 33 rfl rfl HG0.out _ Tryd.underlying33 sizeGate ?_) | fail)
      refine (implGokB_any _ (n : Int) qu wi ti qa bu le pb pc pj 1000 0 1 ea 1 ec ka n kc' 0 fa n fc ra 0 rc 1 0 0 [evS1 d] K (List.replicate n 0) [] (ev_wf d) nowf (by omega) (by omega) HGI.out).mono ?_
      rintro e u5 ⟨rfl, hb⟩
      rw [gok_rj HCL.out HK.out (by have := HD.out; omega) (by have := HD.out; omega)]
      replace HG0 := Lib.hid (HG0.out.below hb)
      replace HL := Lib.hid (low_after HL.out hb)
      replace HGI := Lib.hid (HGI.out.here hb)
      clear hb
      go_wp2_with (first | (refine wpList_load_boxg (by kernel_rfl) _ 33 rfl rfl HG0.out _ Tryd.underlying33 sizeGate ?_) | fail)
      refine (implEventAt_any _ (n : Int) qu wi ti qa bu le pb pc pj 1000 0 1 ea 1 ec ka n kc' 0 fa n fc ra 0 rc 1 0 0 [evS1 d] K (List.replicate n 0) [] 1 (by decide) (ev_wf d) (by omega) HGI.out).mono ?_
      rintro e u6 ⟨rfl, hb⟩
      rw [at_one]
      replace HL := Lib.hid (low_after HL.out hb)
      clear hb
      go_wp2_with fail
      go_ret
      exact ⟨rfl, HL.out⟩

end Go.Proofs.YtkndpkingmemoaaDoor.Gat
