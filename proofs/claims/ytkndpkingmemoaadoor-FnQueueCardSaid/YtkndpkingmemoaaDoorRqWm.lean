/-
  The walk of the law FnQueue.
-/
import Derived.Test.YtkndpkingmemoaaDoorRqAm
import Derived.Test.YtkndpkingmemoaaDoorMgx
import Derived.Test.YtkndpkingmemoaaDoorGtSam
import Derived.Deep.DeepCutAuto
namespace Go.Proofs.YtkndpkingmemoaaDoor.Gat
open Go.RowKit Go.Proofs.YtkndpkingmemoaaDoor.Kit Go.Proofs.YtkndpkingmemoaaDoor.Draw
open Lnk (bOne bAfter IOwn IIs below_keep below_drew' bcell low_after low_alloc grown_of_below)
set_option linter.unusedVariables false
set_option linter.unusedSimpArgs false

set_option maxRecDepth 100000 in
set_option maxHeartbeats 8000000 in
theorem fnQueue_walk (w : World) (a0 : Option Addr) (len0 cap0 : Nat) (zs : List Int) (hrow : IsRow .u8 w a0 len0 cap0 zs) (hg : ErrT w) :
    Calls Tryd.prog 3 #[.slice a0 len0 cap0] w fun e w' => e = .returned (.bool true) ∧ Below w.heap.size w w' := by
  have hcode := hrow.code
  have hle := hcode.le
  have HC := Lib.hid hcode
  have HLE := Lib.hid hle
  have HEG := Lib.hid hg
  clear hrow hcode hle hg
  go_enter Tryd.func3, Tryd.ntmps3
  by_cases hbig : (1048576 : Int) < (len0 : Int)
  · go_wp2_with fail
    refine (big_yes _ a0 len0 cap0 HLE.out hbig).mono ?_
    rintro e w' ⟨rfl, rfl⟩
    go_wp2_with fail
    go_ret
    exact ⟨rfl, Below.refl _ _⟩
  go_wp2_with fail
  refine (big_no _ a0 len0 cap0 HLE.out (by omega)).mono ?_
  rintro e w' ⟨rfl, rfl⟩
  clear hbig
  go_wp2_with fail
  refine (config_any w a0 len0 cap0 HC.out).mono ?_
  rintro e w1 ⟨⟨de, qu, wi, ti, qa, bu, le, pb, pc, pj, rfl, hcl⟩, hb⟩
  obtain ⟨n, rfl⟩ : ∃ n : Nat, de = (n : Int) := ⟨de.toNat, by have := hcl.1; omega⟩
  have hn1 : 1 ≤ n := by have := hcl.1; omega
  have hn3 : n ≤ 3 := by have := hcl.1; omega
  have hn10 : n ≤ 1000 := by omega
  have HCL := Lib.hid hcl
  have HL := Lib.hid hb
  clear hcl hb
  obtain ⟨kc, hkc⟩ : ∃ k, k = w1.heap.size := ⟨_, rfl⟩
  have HKC := Lib.hid (show w.heap.size ≤ kc by rw [hkc]; exact HL.out.size)
  go_upto_region 4 with (first | (refine wpList_store_box rfl _ _ 27 rfl rfl [.int .i64 n, .int .i64 qu, .int .i64 wi, .int .i64 ti, .int .i64 qa, .int .i64 bu, .int .i64 le, .int .i64 pb, .int .i64 pc, .int .i64 pj, .int .i64 1000] rfl (Box.new _ [.int .i64 0, .int .i64 0, .int .i64 0, .int .i64 0, .int .i64 0, .int .i64 0, .int .i64 0, .int .i64 0, .int .i64 0, .int .i64 0, .int .i64 0] 27) sizeCfg rfl rfl ?_; intro V hXb hgV hlV; have HX := Lib.hid hXb; have HBV := Lib.hid (hlV w1.heap.size w1 (Nat.le_refl _) (bOne w1 _)); clear hXb hgV hlV) | fail)
  try simp only [Act.put]
  replace HL := Lib.hid (low_after HL.out HBV.out)
  rw [← hkc] at HX ⊢
  clear HBV hkc
  go_wp2_with (first | (refine wpList_load_box rfl _ 27 rfl rfl HX.out _ Tryd.underlying27 sizeCfg ?_) | fail)
  refine (implNew_yes _ n qu wi ti qa bu le pb pc pj 1000 hn10 (cfgB_yes HCL.out.ok)).mono ?_
  rintro e w2 ⟨⟨gk, gf, rfl, hk, hf⟩, hb⟩
  have HGI := Lib.hid (gis_new0 hn10 (lis_rep hk) (Lnk.IOwn.isN hf))
  replace HX := Lib.hid (HX.out.below hb)
  replace HL := Lib.hid (low_after HL.out hb)
  clear hb hk hf
  obtain ⟨kg, hkg⟩ : ∃ k, k = w2.heap.size := ⟨_, rfl⟩
  have HKG := Lib.hid (show w.heap.size ≤ kg by rw [hkg]; exact HL.out.size)
  have HNE := Lib.hid (show kc < kg by rw [hkg]; exact HX.out.lt)
  go_upto_region 5 with (first | (refine wpList_store_box rfl _ _ 33 rfl rfl [.int .i64 n, .int .i64 qu, .int .i64 wi, .int .i64 ti, .int .i64 qa, .int .i64 bu, .int .i64 le, .int .i64 pb, .int .i64 pc, .int .i64 pj, .int .i64 1000, .int .i64 0, .int .i64 0, .slice none 0 0, .slice (some ⟨gk, 0, none⟩) n n, .int .i64 0, .slice (some ⟨gf, 0, none⟩) n n, .slice none 0 0, .int .i64 0, .int .i64 0, .int .i64 0] rfl (Box.new _ [.int .i64 0, .int .i64 0, .int .i64 0, .int .i64 0, .int .i64 0, .int .i64 0, .int .i64 0, .int .i64 0, .int .i64 0, .int .i64 0, .int .i64 0, .int .i64 0, .int .i64 0, .slice none 0 0, .slice none 0 0, .int .i64 0, .slice none 0 0, .slice none 0 0, .int .i64 0, .int .i64 0, .int .i64 0] 33) sizeGate rfl rfl ?_; intro V0 hXb hgV hlV; have HG0 := Lib.hid hXb; have HBV := Lib.hid (hlV w2.heap.size w2 (Nat.le_refl _) (bOne w2 _)); clear hXb hgV hlV) | fail)
  try simp only [Act.put]
  rw [← hkg] at HG0 ⊢
  replace HX := Lib.hid (HX.out.below HBV.out)
  replace HL := Lib.hid (low_after HL.out HBV.out)
  replace HGI := Lib.hid (HGI.out.here HBV.out)
  clear HBV hkg
  obtain ⟨wa, hwa⟩ : ∃ x, x = V0 := ⟨_, rfl⟩
  rw [← hwa] at HX HG0 HGI HL ⊢
  clear hwa
  go_wp2_with fail
  go_loopw [5] (fun i wr => ∃ (j en : Nat) (E : List Ev) (ea : Option Addr) (ec : Nat) (ka : Option Addr) (kc' : Nat) (fa : Option Addr) (fc : Nat) (ra : Option Addr) (rc : Nat), j ≤ 30 ∧ en ≤ j ∧ i = .int .i64 j ∧ Hid (E.length = en) ∧ Hid (RqE n qu E) ∧ Hid (Box wr kg 33 [.int .i64 n, .int .i64 qu, .int .i64 wi, .int .i64 ti, .int .i64 qa, .int .i64 bu, .int .i64 le, .int .i64 pb, .int .i64 pc, .int .i64 pj, .int .i64 1000, .int .i64 0, .int .i64 (en : Nat), .slice ea en ec, .slice ka n kc', .int .i64 0, .slice fa n fc, .slice ra 0 rc, .int .i64 (en : Nat), .int .i64 0, .int .i64 0]) ∧ Hid (Box wr kc 27 [.int .i64 n, .int .i64 qu, .int .i64 wi, .int .i64 ti, .int .i64 qa, .int .i64 bu, .int .i64 le, .int .i64 pb, .int .i64 pc, .int .i64 pj, .int .i64 1000]) ∧ Hid (GIs wr.heap.size wr ea en ka n fa n ra 0 E (List.replicate n lk0) (List.replicate n 0) []) ∧ Hid (Below w.heap.size w wr)) (fun i _ => 30 - (intOf i).toNat)
  case atStart => exact ⟨0, 0, [], none, 0, (some ⟨gk, 0, none⟩), n, (some ⟨gf, 0, none⟩), n, none, 0, by omega, by omega, rfl, Lib.hid rfl, Lib.hid (rqe_nil (by have := HCL.out.2.1; omega)), HG0, HX, HGI, HL⟩
  case round =>
    obtain ⟨j, en, E, ea, ec, ka, kc', fa, fc, ra, rc, hj, hej, rfl, HEN, HRQ, HG0, HX, HGI, HL⟩ := hrel
    by_cases hlt : (j : Int) < 30
    · go_upto_region 8 with fail
      have hb := below_drew' (Below.refl wr.heap.size wr)
      replace HX := Lib.hid (HX.out.below hb)
      replace HG0 := Lib.hid (HG0.out.below hb)
      replace HGI := Lib.hid (HGI.out.here hb)
      replace HL := Lib.hid (low_after HL.out hb)
      clear hb
      refine wp_region_held_drew (S := fun w' => w'.cell? ⟨kc, 0, none⟩ = some (.int .i64 n)) (by kernel_rfl) (HX.out.cell 0 _ rfl) (fun hHeld => ?_)
      obtain ⟨wd, hwd⟩ : ∃ x, x = wr.drew := ⟨_, rfl⟩
      rw [← hwd] at HX HG0 HGI HL hHeld ⊢
      clear hwd
      refine wpAnyH_take (i := 0) (oi := { dst := some _, op := _, type := _, pos := _, after := _, guard := _ }) (v := ?_) rfl (by kernel_rfl) (by kernel_rfl) (by kernel_rfl) (fun _ _ _ h => h) ?_ (by with_reducible assumption) ?_
      rotate_left 1
      focus (refine Or.inl ⟨by rfl, ?_⟩; intro wq hSw; go_simp; try with_reducible rfl)
      try simp only [Act.put, List.setIfInBounds_toArray, List.set_cons_zero, List.set_cons_succ]
      refine wpAnyH_take (i := 1) (oi := { dst := some _, op := _, type := _, pos := _, after := _, guard := _ }) (v := ?_) rfl (by kernel_rfl) (by kernel_rfl) (by kernel_rfl) (fun _ _ _ h => h) ?_ (by with_reducible assumption) ?_
      rotate_left 1
      focus (refine Or.inl ⟨by rfl, ?_⟩; intro wq hSw; go_simp; try with_reducible rfl)
      try simp only [Act.put, List.setIfInBounds_toArray, List.set_cons_zero, List.set_cons_succ]
      refine wpAnyH_take (i := 3) (oi := { dst := some _, op := _, type := _, pos := _, after := _, guard := _ }) (v := ?_) rfl (by kernel_rfl) (by kernel_rfl) (by kernel_rfl) (fun _ _ _ h => h) ?_ (by with_reducible assumption) ?_
      rotate_left 1
      focus (refine Or.inl ⟨by rfl, ?_⟩; intro wq hSw; go_simp; try with_reducible rfl)
      try simp only [Act.put, List.setIfInBounds_toArray, List.set_cons_zero, List.set_cons_succ]
      refine wpAnyH_take (i := 4) (oi := { dst := some _, op := _, type := _, pos := _, after := _, guard := _ }) (v := ?_) rfl (by kernel_rfl) (by kernel_rfl) (by kernel_rfl) (fun _ _ _ h => h) ?_ (by with_reducible assumption) ?_
      rotate_left 1
      focus (refine Or.inl ⟨by rfl, ?_⟩; intro wq hSw; have q0 := hSw; go_simp; try with_reducible rfl)
      try simp only [Act.put, List.setIfInBounds_toArray, List.set_cons_zero, List.set_cons_succ]
      refine wpAnyH_ready (rs := [2]) (by kernel_rfl) (by simp) ?_
      refine AllReadyH.cons rfl (fun KA hKA => ?_) AllReadyH.nil
      go_simp
      refine (at_draw wd w.heap.size a0 len0 cap0 (HC.out.below HL.out) j (by omega)).mono ?_
      rintro e v ⟨⟨z, hz0, hz1, rfl⟩, hvw⟩
      subst hvw
      clear hHeld
      dsimp only
      refine hKA.out _ _ ((HX.out.cell 0 _ rfl)) (fun hHeld => ?_)
      clear hKA
      try simp only [Act.put, List.setIfInBounds_toArray, List.set_cons_zero, List.set_cons_succ]
      obtain ⟨r, hr⟩ : ∃ r, Int.tmod z n = r := ⟨_, rfl⟩
      have hr0 : 0 ≤ r := by rw [← hr]; exact Int.tmod_nonneg _ hz0
      have hr1 : r < n := by rw [← hr]; exact Int.tmod_lt_of_pos _ (by omega)
      have hwr : IntKind.i64.wrap r = r := IntWalk.i64_in _ (by omega)
      obtain ⟨d, hd⟩ : ∃ q, q = 1 + r := ⟨_, rfl⟩
      have hwq : IntKind.i64.wrap (1 + r) = d := by rw [← hd]; exact IntWalk.i64_in _ (by omega)
      have hnz : ¬ (n : Int) = 0 := by omega
      have hnz2 : ¬ n = 0 := by omega
      have HD := Lib.hid (show 1 ≤ d ∧ d ≤ n by omega)
      clear hd
      refine wpAnyH_take (i := 5) (oi := { dst := some _, op := _, type := _, pos := _, after := _, guard := _ }) (v := ?_) rfl (by kernel_rfl) (by kernel_rfl) (by kernel_rfl) (fun _ _ _ h => h) ?_ (by with_reducible assumption) ?_
      rotate_left 1
      focus (refine Or.inl ⟨by rfl, ?_⟩; intro wq hSw; go_simp; try with_reducible rfl)
      try simp only [Act.put, List.setIfInBounds_toArray, List.set_cons_zero, List.set_cons_succ]
      refine wpAnyH_take (i := 6) (oi := { dst := some _, op := _, type := _, pos := _, after := _, guard := _ }) (v := ?_) rfl (by kernel_rfl) (by kernel_rfl) (by kernel_rfl) (fun _ _ _ h => h) ?_ (by with_reducible assumption) ?_
      rotate_left 1
      focus (refine Or.inl ⟨by rfl, ?_⟩; intro wq hSw; go_simp; try with_reducible rfl)
      try simp only [Act.put, List.setIfInBounds_toArray, List.set_cons_zero, List.set_cons_succ]
      refine wpAnyH_take (i := 7) (oi := { dst := some _, op := _, type := _, pos := _, after := _, guard := _ }) (v := ?_) rfl (by kernel_rfl) (by kernel_rfl) (by kernel_rfl) (fun _ _ _ h => h) ?_ (by with_reducible assumption) ?_
      rotate_left 1
      focus (refine Or.inl ⟨by rfl, ?_⟩; intro wq hSw; go_simp; try with_reducible rfl)
      try simp only [Act.put, List.setIfInBounds_toArray, List.set_cons_zero, List.set_cons_succ]
      refine wpAnyH_done (by kernel_rfl) ?_ _
      clear hHeld hz0 hz1 hr hr0 hr1 hwr hwq hnz hnz2
      go_wp2_with (first | (refine wpList_load_box rfl _ 33 rfl rfl HG0.out _ Tryd.underlying33 sizeGate ?_) | fail)
      refine (specOpenOf_any _ (n : Int) qu wi ti qa bu le pb pc pj 1000 0 (en : Nat) ea en ec ka n kc' 0 fa n fc ra 0 rc (en : Nat) 0 0 E (List.replicate n lk0) (List.replicate n 0) [] d HGI.out).mono ?_
      rintro e u1 ⟨rfl, hb⟩
      obtain ⟨q, hq⟩ : ∃ q : Int, q = (openN d E : Int) := ⟨_, rfl⟩
      rw [← hq]
      have HQ := Lib.hid hq
      replace HX := Lib.hid (HX.out.below hb)
      replace HG0 := Lib.hid (HG0.out.below hb)
      replace HGI := Lib.hid (HGI.out.here hb)
      replace HL := Lib.hid (low_after HL.out hb)
      clear hb hq
      by_cases hlt2 : q < qu
      · have HLT := Lib.hid hlt2
        have hdq : decide (q < qu) = true := by simpa using hlt2
        clear hlt2
        obtain ⟨en2, hen2⟩ : ∃ x, x = (en + 1) := ⟨_, rfl⟩
        obtain ⟨E2, hE2⟩ : ∃ x, x = (E ++ [evQ en d]) := ⟨_, rfl⟩
        obtain ⟨idv, hidv⟩ : ∃ x : Int, x = ((en + 1 : Nat) : Int) := ⟨_, rfl⟩
        have hxs : RqX qu d E E2 en en2 idv 0 := by
          subst hen2; subst hE2; subst hidv
          exact (.inl ⟨by rw [← HQ.out]; exact HLT.out, rfl, rfl, rfl, rfl⟩)
        have HXS := Lib.hid hxs
        have HEN2 := Lib.hid hen2
        have HID := Lib.hid hidv
        have HR2 := Lib.hid (show RqE n qu E2 by rw [hE2]; rw [← HEN.out]; exact rqe_step HRQ.out HD.out.1 HD.out.2 (by rw [← HQ.out]; exact HLT.out))
        have HL2 := Lib.hid (show E2.length = en2 by rw [hE2, hen2]; simp [HEN.out])
        have hidd : decide (0 < idv) = true := by rw [hidv]; simp
        clear hxs hen2 hE2 hidv
        go_wp2_with (first | (refine wpList_load_box rfl _ 33 rfl rfl HG0.out _ Tryd.underlying33 sizeGate ?_) | fail)
        refine (impl_rq u1 n qu wi ti qa bu le pb pc pj ea ec ka kc' fa fc ra rc E E2 en en2 d idv 0 HCL.out HRQ.out (by have := HEN.out; omega) HEN.out HD.out.1 HD.out.2 HXS.out (HEG.out.below HL.out) HGI.out).mono ?_
        rintro e u2 ⟨⟨ea2, ec2, ka2, kc2, fa2, fc2, ra2, rc2, vs2, rfl, ho⟩, hb⟩
        have HB1 := Lib.hid (show kg < u1.heap.size from HG0.out.lt)
        have HO := Lib.hid ho
        have HOS := Lib.hid hb.size
        replace HX := Lib.hid (HX.out.below hb)
        replace HG0 := Lib.hid (HG0.out.below hb)
        replace HGI := Lib.hid (HGI.out.here hb)
        replace HL := Lib.hid (low_after HL.out hb)
        clear hb ho
        go_upto_region 11 with (first | (refine wpList_store_box rfl _ _ 33 rfl rfl [.int .i64 n, .int .i64 qu, .int .i64 wi, .int .i64 ti, .int .i64 qa, .int .i64 bu, .int .i64 le, .int .i64 pb, .int .i64 pc, .int .i64 pj, .int .i64 1000, .int .i64 0, .int .i64 (en2 : Nat), .slice ea2 en2 ec2, .slice ka2 n kc2, .int .i64 0, .slice fa2 n fc2, .slice ra2 0 rc2, .int .i64 (en2 : Nat), .int .i64 0, .int .i64 0] rfl (Box.new _ [.int .i64 0, .int .i64 0, .int .i64 0, .int .i64 0, .int .i64 0, .int .i64 0, .int .i64 0, .int .i64 0, .int .i64 0, .int .i64 0, .int .i64 0, .int .i64 0, .int .i64 0, .slice none 0 0, .slice none 0 0, .int .i64 0, .slice none 0 0, .slice none 0 0, .int .i64 0, .int .i64 0, .int .i64 0] 33) sizeGate rfl rfl ?_; intro V2 hXb hgV hlV; have HH := Lib.hid hXb; have HBV := Lib.hid (hlV u2.heap.size u2 (Nat.le_refl _) (bOne u2 _)); clear hXb hgV hlV) | fail)
        try simp only [Act.put]
        replace HO := Lib.hid (HO.out.below HBV.out)
        replace HX := Lib.hid (HX.out.below HBV.out)
        replace HG0 := Lib.hid (HG0.out.below HBV.out)
        replace HGI := Lib.hid (HGI.out.here HBV.out)
        replace HL := Lib.hid (low_after HL.out HBV.out)
        clear HBV
        go_wp2_with (first | (refine wpList_load_box rfl _ 33 rfl rfl HG0.out _ Tryd.underlying33 sizeGate ?_) | fail)
        refine (spec_rq _ n qu wi ti qa bu le pb pc pj ea ec ka kc' fa fc ra rc E E2 en en2 d idv 0 HCL.out HRQ.out (by have := HEN.out; omega) HEN.out HD.out.1 HD.out.2 HXS.out HGI.out).mono ?_
        rintro e u3 ⟨⟨ea3, ec3, ka3, kc3, fa3, fc3, ra3, rc3, vs3, rfl, ho⟩, hb⟩
        have HGS := Lib.hid ho.is
        replace HO := Lib.hid (HO.out.below hb)
        replace HX := Lib.hid (HX.out.below hb)
        replace HG0 := Lib.hid (HG0.out.below hb)
        replace HH := Lib.hid (HH.out.below hb)
        replace HGI := Lib.hid (HGI.out.here hb)
        replace HL := Lib.hid (low_after HL.out hb)
        clear hb ho
        go_upto_region 12 with (first | (refine wpList_store_box rfl _ _ 33 rfl rfl [.int .i64 n, .int .i64 qu, .int .i64 wi, .int .i64 ti, .int .i64 qa, .int .i64 bu, .int .i64 le, .int .i64 pb, .int .i64 pc, .int .i64 pj, .int .i64 1000, .int .i64 0, .int .i64 (en2 : Nat), .slice ea3 en2 ec3, .slice ka3 n kc3, .int .i64 0, .slice fa3 n fc3, .slice ra3 0 rc3, .int .i64 (en2 : Nat), .int .i64 0, .int .i64 0] rfl (Box.new _ [.int .i64 0, .int .i64 0, .int .i64 0, .int .i64 0, .int .i64 0, .int .i64 0, .int .i64 0, .int .i64 0, .int .i64 0, .int .i64 0, .int .i64 0, .int .i64 0, .int .i64 0, .slice none 0 0, .slice none 0 0, .int .i64 0, .slice none 0 0, .slice none 0 0, .int .i64 0, .int .i64 0, .int .i64 0] 33) sizeGate rfl rfl ?_; intro V3 hXb hgV hlV; have HS := Lib.hid hXb; have HBV := Lib.hid (hlV u3.heap.size u3 (Nat.le_refl _) (bOne u3 _)); clear hXb hgV hlV) | fail)
        try simp only [Act.put]
        replace HO := Lib.hid (HO.out.below HBV.out)
        replace HGS := Lib.hid (HGS.out.here HBV.out)
        replace HX := Lib.hid (HX.out.below HBV.out)
        replace HG0 := Lib.hid (HG0.out.below HBV.out)
        replace HH := Lib.hid (HH.out.below HBV.out)
        replace HGI := Lib.hid (HGI.out.here HBV.out)
        replace HL := Lib.hid (low_after HL.out HBV.out)
        clear HBV
        go_wp2_with (first | (refine wpList_load_boxg (by kernel_rfl) _ 33 rfl rfl HH.out _ Tryd.underlying33 sizeGate ?_) | (refine wpList_load_boxg (by kernel_rfl) _ 33 rfl rfl HS.out _ Tryd.underlying33 sizeGate ?_) | fail)
        refine (sameGate_same _ (n : Int) qu wi ti qa bu le pb pc pj 1000 0 (en2 : Nat) ea2 en2 ec2 ka2 n kc2 0 fa2 n fc2 ra2 0 rc2 (en2 : Nat) 0 0 ea3 ec3 ka3 kc3 fa3 fc3 ra3 rc3 E2 (List.replicate n lk0) (List.replicate n 0) [] HO.out.is HGS.out (by rw [← HL2.out]; exact small_rq (by omega) (by have := HL2.out; have := HEN2.out; omega))).mono ?_
        rintro e u4 ⟨rfl, hb⟩
        replace HO := Lib.hid (HO.out.below hb)
        replace HX := Lib.hid (HX.out.below hb)
        replace HG0 := Lib.hid (HG0.out.below hb)
        replace HH := Lib.hid (HH.out.below hb)
        replace HGI := Lib.hid (HGI.out.here hb)
        replace HL := Lib.hid (low_after HL.out hb)
        clear hb HGS HS
        have x1 := HX.out.cell 1 _ rfl
        go_upto_region 16 with fail
        clear x1
        go_upto_region 7 with (first | (refine wpList_load_box rfl _ 33 rfl rfl HH.out _ Tryd.underlying33 sizeGate ?_) | (refine wpList_store_box rfl _ _ 33 rfl rfl [.int .i64 n, .int .i64 qu, .int .i64 wi, .int .i64 ti, .int .i64 qa, .int .i64 bu, .int .i64 le, .int .i64 pb, .int .i64 pc, .int .i64 pj, .int .i64 1000, .int .i64 0, .int .i64 (en2 : Nat), .slice ea2 en2 ec2, .slice ka2 n kc2, .int .i64 0, .slice fa2 n fc2, .slice ra2 0 rc2, .int .i64 (en2 : Nat), .int .i64 0, .int .i64 0] rfl HG0.out sizeGate rfl rfl ?_; intro V5 hXb hgV hlV) | fail)
        replace HG0 := Lib.hid hXb
        replace HX := Lib.hid (HX.out.grown hgV (by have := HNE.out; simp; omega))
        replace HL := Lib.hid (hlV w.heap.size w (by have := HKG.out; omega) HL.out)
        replace HGI := Lib.hid (HO.out.low hgV HB1.out).is
        clear hXb hgV hlV HO HH
        go_wp2_with fail
        go_roundw
        case rel => exact ⟨j + 1, en2, E2, ea2, ec2, ka2, kc2, fa2, fc2, ra2, rc2, by omega, by have := HEN2.out; omega, by go_num, HL2, HR2, HG0, HX, HGI, HL⟩
        case measure => simp [intOf]; omega
      · have HLT := Lib.hid hlt2
        have hdq : decide (q < qu) = false := by simpa using hlt2
        clear hlt2
        obtain ⟨en2, hen2⟩ : ∃ x, x = en := ⟨_, rfl⟩
        obtain ⟨E2, hE2⟩ : ∃ x, x = E := ⟨_, rfl⟩
        obtain ⟨idv, hidv⟩ : ∃ x : Int, x = 0 := ⟨_, rfl⟩
        have hxs : RqX qu d E E2 en en2 idv 7 := by
          subst hen2; subst hE2; subst hidv
          exact (.inr ⟨by rw [← HQ.out]; exact HLT.out, rfl, rfl, rfl, rfl⟩)
        have HXS := Lib.hid hxs
        have HEN2 := Lib.hid hen2
        have HID := Lib.hid hidv
        have HR2 := Lib.hid (show RqE n qu E2 by rw [hE2]; exact HRQ.out)
        have HL2 := Lib.hid (show E2.length = en2 by rw [hE2, hen2]; exact HEN.out)
        have hidd : decide (0 < idv) = false := by rw [hidv]; simp
        clear hxs hen2 hE2 hidv
        go_wp2_with (first | (refine wpList_load_box rfl _ 33 rfl rfl HG0.out _ Tryd.underlying33 sizeGate ?_) | fail)
        refine (impl_rq u1 n qu wi ti qa bu le pb pc pj ea ec ka kc' fa fc ra rc E E2 en en2 d idv 7 HCL.out HRQ.out (by have := HEN.out; omega) HEN.out HD.out.1 HD.out.2 HXS.out (HEG.out.below HL.out) HGI.out).mono ?_
        rintro e u2 ⟨⟨ea2, ec2, ka2, kc2, fa2, fc2, ra2, rc2, vs2, rfl, ho⟩, hb⟩
        have HB1 := Lib.hid (show kg < u1.heap.size from HG0.out.lt)
        have HO := Lib.hid ho
        have HOS := Lib.hid hb.size
        replace HX := Lib.hid (HX.out.below hb)
        replace HG0 := Lib.hid (HG0.out.below hb)
        replace HGI := Lib.hid (HGI.out.here hb)
        replace HL := Lib.hid (low_after HL.out hb)
        clear hb ho
        go_upto_region 11 with (first | (refine wpList_store_box rfl _ _ 33 rfl rfl [.int .i64 n, .int .i64 qu, .int .i64 wi, .int .i64 ti, .int .i64 qa, .int .i64 bu, .int .i64 le, .int .i64 pb, .int .i64 pc, .int .i64 pj, .int .i64 1000, .int .i64 0, .int .i64 (en2 : Nat), .slice ea2 en2 ec2, .slice ka2 n kc2, .int .i64 0, .slice fa2 n fc2, .slice ra2 0 rc2, .int .i64 (en2 : Nat), .int .i64 0, .int .i64 0] rfl (Box.new _ [.int .i64 0, .int .i64 0, .int .i64 0, .int .i64 0, .int .i64 0, .int .i64 0, .int .i64 0, .int .i64 0, .int .i64 0, .int .i64 0, .int .i64 0, .int .i64 0, .int .i64 0, .slice none 0 0, .slice none 0 0, .int .i64 0, .slice none 0 0, .slice none 0 0, .int .i64 0, .int .i64 0, .int .i64 0] 33) sizeGate rfl rfl ?_; intro V2 hXb hgV hlV; have HH := Lib.hid hXb; have HBV := Lib.hid (hlV u2.heap.size u2 (Nat.le_refl _) (bOne u2 _)); clear hXb hgV hlV) | fail)
        try simp only [Act.put]
        replace HO := Lib.hid (HO.out.below HBV.out)
        replace HX := Lib.hid (HX.out.below HBV.out)
        replace HG0 := Lib.hid (HG0.out.below HBV.out)
        replace HGI := Lib.hid (HGI.out.here HBV.out)
        replace HL := Lib.hid (low_after HL.out HBV.out)
        clear HBV
        go_wp2_with (first | (refine wpList_load_box rfl _ 33 rfl rfl HG0.out _ Tryd.underlying33 sizeGate ?_) | fail)
        refine (spec_rq _ n qu wi ti qa bu le pb pc pj ea ec ka kc' fa fc ra rc E E2 en en2 d idv 7 HCL.out HRQ.out (by have := HEN.out; omega) HEN.out HD.out.1 HD.out.2 HXS.out HGI.out).mono ?_
        rintro e u3 ⟨⟨ea3, ec3, ka3, kc3, fa3, fc3, ra3, rc3, vs3, rfl, ho⟩, hb⟩
        have HGS := Lib.hid ho.is
        replace HO := Lib.hid (HO.out.below hb)
        replace HX := Lib.hid (HX.out.below hb)
        replace HG0 := Lib.hid (HG0.out.below hb)
        replace HH := Lib.hid (HH.out.below hb)
        replace HGI := Lib.hid (HGI.out.here hb)
        replace HL := Lib.hid (low_after HL.out hb)
        clear hb ho
        go_upto_region 12 with (first | (refine wpList_store_box rfl _ _ 33 rfl rfl [.int .i64 n, .int .i64 qu, .int .i64 wi, .int .i64 ti, .int .i64 qa, .int .i64 bu, .int .i64 le, .int .i64 pb, .int .i64 pc, .int .i64 pj, .int .i64 1000, .int .i64 0, .int .i64 (en2 : Nat), .slice ea3 en2 ec3, .slice ka3 n kc3, .int .i64 0, .slice fa3 n fc3, .slice ra3 0 rc3, .int .i64 (en2 : Nat), .int .i64 0, .int .i64 0] rfl (Box.new _ [.int .i64 0, .int .i64 0, .int .i64 0, .int .i64 0, .int .i64 0, .int .i64 0, .int .i64 0, .int .i64 0, .int .i64 0, .int .i64 0, .int .i64 0, .int .i64 0, .int .i64 0, .slice none 0 0, .slice none 0 0, .int .i64 0, .slice none 0 0, .slice none 0 0, .int .i64 0, .int .i64 0, .int .i64 0] 33) sizeGate rfl rfl ?_; intro V3 hXb hgV hlV; have HS := Lib.hid hXb; have HBV := Lib.hid (hlV u3.heap.size u3 (Nat.le_refl _) (bOne u3 _)); clear hXb hgV hlV) | fail)
        try simp only [Act.put]
        replace HO := Lib.hid (HO.out.below HBV.out)
        replace HGS := Lib.hid (HGS.out.here HBV.out)
        replace HX := Lib.hid (HX.out.below HBV.out)
        replace HG0 := Lib.hid (HG0.out.below HBV.out)
        replace HH := Lib.hid (HH.out.below HBV.out)
        replace HGI := Lib.hid (HGI.out.here HBV.out)
        replace HL := Lib.hid (low_after HL.out HBV.out)
        clear HBV
        go_wp2_with (first | (refine wpList_load_boxg (by kernel_rfl) _ 33 rfl rfl HH.out _ Tryd.underlying33 sizeGate ?_) | (refine wpList_load_boxg (by kernel_rfl) _ 33 rfl rfl HS.out _ Tryd.underlying33 sizeGate ?_) | fail)
        refine (sameGate_same _ (n : Int) qu wi ti qa bu le pb pc pj 1000 0 (en2 : Nat) ea2 en2 ec2 ka2 n kc2 0 fa2 n fc2 ra2 0 rc2 (en2 : Nat) 0 0 ea3 ec3 ka3 kc3 fa3 fc3 ra3 rc3 E2 (List.replicate n lk0) (List.replicate n 0) [] HO.out.is HGS.out (by rw [← HL2.out]; exact small_rq (by omega) (by have := HL2.out; have := HEN2.out; omega))).mono ?_
        rintro e u4 ⟨rfl, hb⟩
        replace HO := Lib.hid (HO.out.below hb)
        replace HX := Lib.hid (HX.out.below hb)
        replace HG0 := Lib.hid (HG0.out.below hb)
        replace HH := Lib.hid (HH.out.below hb)
        replace HGI := Lib.hid (HGI.out.here hb)
        replace HL := Lib.hid (low_after HL.out hb)
        clear hb HGS HS
        have x1 := HX.out.cell 1 _ rfl
        go_upto_region 16 with fail
        clear x1
        go_upto_region 7 with (first | (refine wpList_load_box rfl _ 33 rfl rfl HH.out _ Tryd.underlying33 sizeGate ?_) | (refine wpList_store_box rfl _ _ 33 rfl rfl [.int .i64 n, .int .i64 qu, .int .i64 wi, .int .i64 ti, .int .i64 qa, .int .i64 bu, .int .i64 le, .int .i64 pb, .int .i64 pc, .int .i64 pj, .int .i64 1000, .int .i64 0, .int .i64 (en2 : Nat), .slice ea2 en2 ec2, .slice ka2 n kc2, .int .i64 0, .slice fa2 n fc2, .slice ra2 0 rc2, .int .i64 (en2 : Nat), .int .i64 0, .int .i64 0] rfl HG0.out sizeGate rfl rfl ?_; intro V5 hXb hgV hlV) | fail)
        replace HG0 := Lib.hid hXb
        replace HX := Lib.hid (HX.out.grown hgV (by have := HNE.out; simp; omega))
        replace HL := Lib.hid (hlV w.heap.size w (by have := HKG.out; omega) HL.out)
        replace HGI := Lib.hid (HO.out.low hgV HB1.out).is
        clear hXb hgV hlV HO HH
        go_wp2_with fail
        go_roundw
        case rel => exact ⟨j + 1, en2, E2, ea2, ec2, ka2, kc2, fa2, fc2, ra2, rc2, by omega, by have := HEN2.out; omega, by go_num, HL2, HR2, HG0, HX, HGI, HL⟩
        case measure => simp [intOf]; omega
    · obtain rfl : j = 30 := by omega
      clear hlt
      have hen30 := HEN.out
      subst hen30
      go_wp2_with (first | (refine wpList_load_box rfl _ 33 rfl rfl HG0.out _ Tryd.underlying33 sizeGate ?_) | fail)
      refine (implGokB_any _ (n : Int) qu wi ti qa bu le pb pc pj 1000 0 (E.length : Nat) ea E.length ec ka n kc' 0 fa n fc ra 0 rc (E.length : Nat) 0 0 E (List.replicate n lk0) (List.replicate n 0) [] (rqe_wf HRQ.out (by omega)) nowf (by omega) (by omega) HGI.out).mono ?_
      rintro e u5 ⟨rfl, hb⟩
      rw [gok_rq HCL.out HRQ.out (by omega)]
      replace HG0 := Lib.hid (HG0.out.below hb)
      replace HX := Lib.hid (HX.out.below hb)
      replace HL := Lib.hid (low_after HL.out hb)
      clear hb
      obtain ⟨P, hP⟩ : ∃ P : Int, P = qu * (n : Int) := ⟨_, rfl⟩
      have hPb : (E.length : Int) ≤ P ∧ P ≤ 12 := ⟨by rw [hP]; exact open_sum HRQ.out hn1 hn3, by
        rw [hP]
        have := HCL.out.2.1
        rcases (show n = 1 ∨ n = 2 ∨ n = 3 by omega) with rfl | rfl | rfl <;> push_cast <;> omega⟩
      have hP0 : 0 ≤ P := by omega
      have hwP : IntKind.i64.wrap (qu * (n : Int)) = P := by rw [← hP]; exact IntWalk.i64_in _ (by omega)
      have hPl := hPb.1
      clear hP
      have g18 := HG0.out.cell 18 _ rfl
      have g12 := HG0.out.cell 12 _ rfl
      have g13 := HG0.out.cell 13 _ rfl
      have x0 := HX.out.cell 0 _ rfl
      have x1 := HX.out.cell 1 _ rfl
      go_wp2_with fail
      go_ret
      exact ⟨rfl, HL.out⟩

end Go.Proofs.YtkndpkingmemoaaDoor.Gat
