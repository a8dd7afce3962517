/-
  The walk of the law FnNew.
-/
import Derived.Test.YtecfomaapomncaaGtFa
import Derived.Test.YtecfomaapomncaaGtSa
import Derived.Test.YtecfomaapomncaaGtP
import Derived.Test.YtecfomaapomncaaGtV
import Derived.Test.YtecfomaapomncaaBig
import Derived.Deep.DeepCutAuto
namespace Go.Proofs.Ytecfomaapomncaa.Gat
open Go.RowKit Go.Proofs.Ytecfomaapomncaa.Kit Go.Proofs.Ytecfomaapomncaa.Draw
open Lnk (bOne bAfter IOwn IIs below_keep below_drew' bcell low_after low_alloc)
set_option linter.unusedVariables false
set_option linter.unusedSimpArgs false

theorem small_new {n : Nat} (hn : n ≤ 1000) : Small 0 n n 0 (List.replicate n lk0) := by
  refine ⟨by omega, by omega, fun k hk => ?_, by omega, by omega⟩
  rw [List.eq_of_mem_replicate hk]
  decide
set_option maxRecDepth 100000 in
set_option maxHeartbeats 8000000 in
theorem fnNew_walk (w : World) (a0 : Option Addr) (len0 cap0 : Nat) (zs : List Int) (hrow : IsRow .u8 w a0 len0 cap0 zs) :
    Calls Try.prog 3 #[.slice a0 len0 cap0] w fun e w' => e = .returned (.bool true) ∧ Below w.heap.size w w' := by
  have hcode := hrow.code
  have hle := hcode.le
  have HC := Lib.hid hcode
  have HLE := Lib.hid hle
  clear hrow hcode hle
  go_enter Try.func3, Try.ntmps3
  by_cases hbig : (1048576 : Int) < (len0 : Int)
  · go_wp2_with fail
    refine (big_yes _ a0 len0 cap0 HLE.out hbig).mono ?_
    rintro e w' ⟨rfl, rfl⟩
    go_wp2_with fail
    go_ret
    exact ⟨rfl, Below.refl _ _⟩
  go_wp2_with fail
  refine (big_no _ a0 len0 cap0 HLE.out (by omega)).mono ?_
  rintro e w' ⟨rfl, rfl⟩
  clear hbig
  go_wp2_with fail
  refine (drawNew_draw w w.heap.size a0 len0 cap0 HC.out (Nat.le_refl _)).mono ?_
  rintro e w1 ⟨⟨de, qu, wi, ti, qa, bu, le, pb, pc, pj, pt, hm, rfl⟩, hb⟩
  have HL := Lib.hid hb
  clear hm hb
  obtain ⟨n, y0, y1, y2, y3, y4, y5, y6, y7, y8, y9, y10, hn, hI, hS, hyes, hno⟩ := new_both de qu wi ti qa bu le pb pc pj pt
  have HI := Lib.hid hI
  have HS := Lib.hid hS
  have HY := Lib.hid hyes
  have HNO := Lib.hid hno
  clear hI hS hyes hno
  obtain ⟨kc, hkc⟩ : ∃ k, k = w1.heap.size := ⟨_, rfl⟩
  go_upto_region 4 with (first | (refine wpList_store_box rfl _ _ 27 rfl rfl [.int .i64 de, .int .i64 qu, .int .i64 wi, .int .i64 ti, .int .i64 qa, .int .i64 bu, .int .i64 le, .int .i64 pb, .int .i64 pc, .int .i64 pj, .int .i64 pt] rfl (Box.new _ [.int .i64 0, .int .i64 0, .int .i64 0, .int .i64 0, .int .i64 0, .int .i64 0, .int .i64 0, .int .i64 0, .int .i64 0, .int .i64 0, .int .i64 0] 27) sizeCfg rfl rfl ?_; intro V0 hXb hgV hlV; have HX := Lib.hid hXb; have HBV := Lib.hid (hlV w1.heap.size w1 (Nat.le_refl _) (bOne w1 _)); clear hXb hgV hlV) | fail)
  rw [← hkc] at HX ⊢
  clear hkc
  replace HL := Lib.hid (low_after HL.out HBV.out)
  clear HBV
  go_wp2_with (first | (refine wpList_load_box rfl _ 27 rfl rfl HX.out _ Try.underlying27 sizeCfg ?_) | fail)
  refine (HI.out _).mono ?_
  rintro e w2 ⟨⟨ka1, kc1, fa1, fc1, rfl, hk, hf⟩, hb⟩
  have HG := Lib.hid (gis_new hn (lis_rep hk) (Lnk.IOwn.isN hf))
  replace HX := Lib.hid (HX.out.below hb)
  replace HL := Lib.hid (low_after HL.out hb)
  clear hb hk hf
  obtain ⟨kg, hkg⟩ : ∃ k, k = w2.heap.size := ⟨_, rfl⟩
  go_upto_region 5 with (first | (refine wpList_store_box rfl _ _ 33 rfl rfl [.int .i64 y0, .int .i64 y1, .int .i64 y2, .int .i64 y3, .int .i64 y4, .int .i64 y5, .int .i64 y6, .int .i64 y7, .int .i64 y8, .int .i64 y9, .int .i64 y10, .int .i64 0, .int .i64 0, .slice none 0 0, .slice ka1 n kc1, .int .i64 0, .slice fa1 n fc1, .slice none 0 0, .int .i64 0, .int .i64 0, .int .i64 0] rfl (Box.new _ [.int .i64 0, .int .i64 0, .int .i64 0, .int .i64 0, .int .i64 0, .int .i64 0, .int .i64 0, .int .i64 0, .int .i64 0, .int .i64 0, .int .i64 0, .int .i64 0, .int .i64 0, .slice none 0 0, .slice none 0 0, .int .i64 0, .slice none 0 0, .slice none 0 0, .int .i64 0, .int .i64 0, .int .i64 0] 33) sizeGate rfl rfl ?_; intro V hXb hgV hlV; have HB := Lib.hid hXb; have HBV := Lib.hid (hlV w2.heap.size w2 (Nat.le_refl _) (bOne w2 _)); clear hXb hgV hlV) | fail)
  rw [← hkg] at HB ⊢
  clear hkg
  replace HX := Lib.hid (HX.out.below HBV.out)
  replace HL := Lib.hid (low_after HL.out HBV.out)
  replace HG := Lib.hid (HG.out.here HBV.out)
  clear HBV HI
  obtain ⟨x, hx⟩ : ∃ x, x = cfgB de qu wi ti qa bu le pb pc pj pt := ⟨_, rfl⟩
  have HXB := Lib.hid hx
  clear hx
  have hxx : (x != x) = false := by simp
  simp only [Act.put]
  go_cut [23] (fun s23 wx => s23 = .bool false ∧ Hid (Below V.heap.size V wx))
  case first =>
    have HQ := Lib.hid (show Below V.heap.size V V.drew from below_drew' (Below.refl _ _))
    replace HG := Lib.hid (HG.out.here HQ.out)
    refine wp_region_held_drew (S := fun w' => Box w' kc 27 [.int .i64 de, .int .i64 qu, .int .i64 wi, .int .i64 ti, .int .i64 qa, .int .i64 bu, .int .i64 le, .int .i64 pb, .int .i64 pc, .int .i64 pj, .int .i64 pt] ∧ Box w' kg 33 [.int .i64 y0, .int .i64 y1, .int .i64 y2, .int .i64 y3, .int .i64 y4, .int .i64 y5, .int .i64 y6, .int .i64 y7, .int .i64 y8, .int .i64 y9, .int .i64 y10, .int .i64 0, .int .i64 0, .slice none 0 0, .slice ka1 n kc1, .int .i64 0, .slice fa1 n fc1, .slice none 0 0, .int .i64 0, .int .i64 0, .int .i64 0]) (by kernel_rfl) ⟨HX.out.below HQ.out, HB.out.below HQ.out⟩ (fun hHeld => ?_)
    refine wpAnyH_take (i := 0) (oi := { dst := some _, op := _, type := _, pos := _, after := _, guard := _ }) (v := ?_) rfl (by kernel_rfl) (by kernel_rfl) (by kernel_rfl) (fun _ _ _ h => h) ?_ (by with_reducible assumption) ?_
    rotate_left 1
    focus (refine Or.inl ⟨by rfl, ?_⟩; intro wq hSw; refine exec_load_box ?_ 33 ?_ ?_ hSw.2 _ Try.underlying33 sizeGate; rotate_left 1; rfl; rfl)
    try simp only [Act.put, List.setIfInBounds_toArray, List.set_cons_zero, List.set_cons_succ]
    refine wpAnyH_take (i := 1) (oi := { dst := some _, op := _, type := _, pos := _, after := _, guard := _ }) (v := ?_) rfl (by kernel_rfl) (by kernel_rfl) (by kernel_rfl) (fun _ _ _ h => h) ?_ (by with_reducible assumption) ?_
    rotate_left 1
    focus (refine Or.inl ⟨by rfl, ?_⟩; intro wq hSw; refine exec_load_box ?_ 27 ?_ ?_ hSw.1 _ Try.underlying27 sizeCfg; rotate_left 1; rfl; rfl)
    try simp only [Act.put, List.setIfInBounds_toArray, List.set_cons_zero, List.set_cons_succ]
    refine wpAnyH_ready (rs := [2]) (by kernel_rfl) (by simp) ?_
    refine AllReadyH.cons rfl (fun KA hKA => ?_) AllReadyH.nil
    go_simp
    refine (HS.out _).mono ?_
    rintro e v1 ⟨⟨ka0, kc0, fa0, fc0, rfl, hk, hf⟩, hb⟩
    have HG0 := Lib.hid (gis_new hn hk hf)
    have HS1 := Lib.hid (show Box v1 kc 27 [.int .i64 de, .int .i64 qu, .int .i64 wi, .int .i64 ti, .int .i64 qa, .int .i64 bu, .int .i64 le, .int .i64 pb, .int .i64 pc, .int .i64 pj, .int .i64 pt] ∧ Box v1 kg 33 [.int .i64 y0, .int .i64 y1, .int .i64 y2, .int .i64 y3, .int .i64 y4, .int .i64 y5, .int .i64 y6, .int .i64 y7, .int .i64 y8, .int .i64 y9, .int .i64 y10, .int .i64 0, .int .i64 0, .slice none 0 0, .slice ka1 n kc1, .int .i64 0, .slice fa1 n fc1, .slice none 0 0, .int .i64 0, .int .i64 0, .int .i64 0] from ⟨hHeld.1.below hb, hHeld.2.below hb⟩)
    replace HG := Lib.hid (HG.out.here hb)
    replace HQ := Lib.hid (low_after HQ.out hb)
    clear hb hHeld hk hf
    dsimp only
    refine hKA.out _ _ (HS1.out) (fun hHeld => ?_)
    clear hKA
    try simp only [Act.put, List.setIfInBounds_toArray, List.set_cons_zero, List.set_cons_succ]
    refine wpAnyH_ready (rs := [3]) (by kernel_rfl) (by simp) ?_
    refine AllReadyH.cons rfl (fun KA hKA => ?_) AllReadyH.nil
    go_simp
    refine (sameGate_same _ y0 y1 y2 y3 y4 y5 y6 y7 y8 y9 y10 0 0 none 0 0 ka1 n kc1 0 fa1 n fc1 none 0 0 0 0 0 none 0 ka0 kc0 fa0 fc0 none 0 [] (List.replicate n lk0) (List.replicate n 0) [] HG.out HG0.out (small_new hn)).mono ?_
    rintro e v2 ⟨rfl, hb⟩
    have HS2 := Lib.hid (show Box v2 kc 27 [.int .i64 de, .int .i64 qu, .int .i64 wi, .int .i64 ti, .int .i64 qa, .int .i64 bu, .int .i64 le, .int .i64 pb, .int .i64 pc, .int .i64 pj, .int .i64 pt] ∧ Box v2 kg 33 [.int .i64 y0, .int .i64 y1, .int .i64 y2, .int .i64 y3, .int .i64 y4, .int .i64 y5, .int .i64 y6, .int .i64 y7, .int .i64 y8, .int .i64 y9, .int .i64 y10, .int .i64 0, .int .i64 0, .slice none 0 0, .slice ka1 n kc1, .int .i64 0, .slice fa1 n fc1, .slice none 0 0, .int .i64 0, .int .i64 0, .int .i64 0] from ⟨HS1.out.1.below hb, HS1.out.2.below hb⟩)
    replace HG := Lib.hid (HG.out.here hb)
    replace HQ := Lib.hid (low_after HQ.out hb)
    clear hb hHeld HS1 HG0
    dsimp only
    refine hKA.out _ _ (HS2.out) (fun hHeld => ?_)
    clear hKA
    try simp only [Act.put, List.setIfInBounds_toArray, List.set_cons_zero, List.set_cons_succ]
    refine wpAnyH_take (i := 4) (oi := { dst := some _, op := _, type := _, pos := _, after := _, guard := _ }) (v := ?_) rfl (by kernel_rfl) (by kernel_rfl) (by kernel_rfl) (fun _ _ _ h => h) ?_ (by with_reducible assumption) ?_
    rotate_left 1
    focus (refine Or.inl ⟨by rfl, ?_⟩; intro wq hSw; go_simp; try with_reducible rfl)
    try simp only [Act.put, List.setIfInBounds_toArray, List.set_cons_zero, List.set_cons_succ]
    refine wpAnyH_take (i := 5) (oi := { dst := some _, op := _, type := _, pos := _, after := _, guard := _ }) (v := ?_) rfl (by kernel_rfl) (by kernel_rfl) (by kernel_rfl) (fun _ _ _ h => h) ?_ (by with_reducible assumption) ?_
    rotate_left 1
    focus (refine Or.inl ⟨by rfl, ?_⟩; intro wq hSw; go_simp; try with_reducible rfl)
    try simp only [Act.put, List.setIfInBounds_toArray, List.set_cons_zero, List.set_cons_succ]
    refine wpAnyH_take (i := 6) (oi := { dst := some _, op := _, type := _, pos := _, after := _, guard := _ }) (v := ?_) rfl (by kernel_rfl) (by kernel_rfl) (by kernel_rfl) (fun _ _ _ h => h) ?_ (by with_reducible assumption) ?_
    rotate_left 1
    focus (refine Or.inl ⟨by rfl, ?_⟩; intro wq hSw; refine exec_load_box ?_ 27 ?_ ?_ hSw.1 _ Try.underlying27 sizeCfg; rotate_left 1; rfl; rfl)
    try simp only [Act.put, List.setIfInBounds_toArray, List.set_cons_zero, List.set_cons_succ]
    refine wpAnyH_take (i := 8) (oi := { dst := some _, op := _, type := _, pos := _, after := _, guard := _ }) (v := ?_) rfl (by kernel_rfl) (by kernel_rfl) (by kernel_rfl) (fun _ _ _ h => h) ?_ (by with_reducible assumption) ?_
    rotate_left 1
    focus (refine Or.inl ⟨by rfl, ?_⟩; intro wq hSw; refine exec_load_box ?_ 27 ?_ ?_ hSw.1 _ Try.underlying27 sizeCfg; rotate_left 1; rfl; rfl)
    try simp only [Act.put, List.setIfInBounds_toArray, List.set_cons_zero, List.set_cons_succ]
    refine wpAnyH_ready (rs := [7]) (by kernel_rfl) (by simp) ?_
    refine AllReadyH.cons rfl (fun KA hKA => ?_) AllReadyH.nil
    go_simp
    refine (implCfg_any de qu wi ti qa bu le pb pc pj pt _).mono ?_
    rintro e v3 ⟨rfl, hb⟩
    rw [← HXB.out]
    have HS3 := Lib.hid (show Box v3 kc 27 [.int .i64 de, .int .i64 qu, .int .i64 wi, .int .i64 ti, .int .i64 qa, .int .i64 bu, .int .i64 le, .int .i64 pb, .int .i64 pc, .int .i64 pj, .int .i64 pt] ∧ Box v3 kg 33 [.int .i64 y0, .int .i64 y1, .int .i64 y2, .int .i64 y3, .int .i64 y4, .int .i64 y5, .int .i64 y6, .int .i64 y7, .int .i64 y8, .int .i64 y9, .int .i64 y10, .int .i64 0, .int .i64 0, .slice none 0 0, .slice ka1 n kc1, .int .i64 0, .slice fa1 n fc1, .slice none 0 0, .int .i64 0, .int .i64 0, .int .i64 0] from ⟨HS2.out.1.below hb, HS2.out.2.below hb⟩)
    replace HQ := Lib.hid (low_after HQ.out hb)
    clear hb hHeld
    dsimp only
    refine hKA.out _ _ (HS3.out) (fun hHeld => ?_)
    clear hKA
    try simp only [Act.put, List.setIfInBounds_toArray, List.set_cons_zero, List.set_cons_succ]
    refine wpAnyH_ready (rs := [9]) (by kernel_rfl) (by simp) ?_
    refine AllReadyH.cons rfl (fun KB hKB => ?_) AllReadyH.nil
    go_simp
    refine (specCfg_any de qu wi ti qa bu le pb pc pj pt _).mono ?_
    rintro e v4 ⟨rfl, hb⟩
    rw [← HXB.out]
    have HS4 := Lib.hid (show Box v4 kc 27 [.int .i64 de, .int .i64 qu, .int .i64 wi, .int .i64 ti, .int .i64 qa, .int .i64 bu, .int .i64 le, .int .i64 pb, .int .i64 pc, .int .i64 pj, .int .i64 pt] ∧ Box v4 kg 33 [.int .i64 y0, .int .i64 y1, .int .i64 y2, .int .i64 y3, .int .i64 y4, .int .i64 y5, .int .i64 y6, .int .i64 y7, .int .i64 y8, .int .i64 y9, .int .i64 y10, .int .i64 0, .int .i64 0, .slice none 0 0, .slice ka1 n kc1, .int .i64 0, .slice fa1 n fc1, .slice none 0 0, .int .i64 0, .int .i64 0, .int .i64 0] from ⟨HS3.out.1.below hb, HS3.out.2.below hb⟩)
    replace HQ := Lib.hid (low_after HQ.out hb)
    clear hb hHeld
    dsimp only
    refine hKB.out _ _ (HS4.out) (fun hHeld => ?_)
    clear hKB
    try simp only [Act.put, List.setIfInBounds_toArray, List.set_cons_zero, List.set_cons_succ]
    refine wpAnyH_take (i := 10) (oi := { dst := some _, op := _, type := _, pos := _, after := _, guard := _ }) (v := ?_) rfl (by kernel_rfl) (by kernel_rfl) (by kernel_rfl) (fun _ _ _ h => h) ?_ (by with_reducible assumption) ?_
    rotate_left 1
    focus (refine Or.inl ⟨by rfl, ?_⟩; intro wq hSw; go_simp; try with_reducible rfl)
    try simp only [Act.put, List.setIfInBounds_toArray, List.set_cons_zero, List.set_cons_succ]
    refine wpAnyH_take (i := 11) (oi := { dst := some _, op := _, type := _, pos := _, after := _, guard := _ }) (v := ?_) rfl (by kernel_rfl) (by kernel_rfl) (by kernel_rfl) (fun _ _ _ h => h) ?_ (by with_reducible assumption) ?_
    rotate_left 1
    focus (refine Or.inl ⟨by rfl, ?_⟩; intro wq hSw; go_simp; try with_reducible rfl)
    try simp only [Act.put, List.setIfInBounds_toArray, List.set_cons_zero, List.set_cons_succ]
    refine wpAnyH_done (by kernel_rfl) ?_ _
    go_wp2_with fail
    go_meet
    exact ⟨rfl, HQ⟩
  case rest =>
    obtain ⟨rfl, HBX⟩ := hcut
    have hb := HBX.out
    replace HX := Lib.hid (HX.out.below hb)
    replace HB := Lib.hid (HB.out.below hb)
    replace HL := Lib.hid (low_after HL.out hb)
    replace HG := Lib.hid (HG.out.here hb)
    clear hb
    clear HBX hxx HS
    go_wp2_with (first | (refine wpList_load_box rfl _ 27 rfl rfl HX.out _ Try.underlying27 sizeCfg ?_) | fail)
    refine (specCfg_any de qu wi ti qa bu le pb pc pj pt _).mono ?_
    rintro e w3 ⟨rfl, hb⟩
    rw [← HXB.out]
    replace HX := Lib.hid (HX.out.below hb)
    replace HB := Lib.hid (HB.out.below hb)
    replace HL := Lib.hid (low_after HL.out hb)
    replace HG := Lib.hid (HG.out.here hb)
    clear hb
    cases x with
    | false =>
      have HGN := Lib.hid (gate_zero (n := n) (y1 := y1) (y2 := y2) (y3 := y3) (y4 := y4) (y5 := y5) (y6 := y6) (y7 := y7) (y8 := y8) (y9 := y9) (y10 := y10) (HNO.out HXB.out.symm))
      go_wp2_with (first | (refine wpList_load_box rfl _ 33 rfl rfl HB.out _ Try.underlying33 sizeGate ?_) | fail)
      refine (implGateOk_any _ y0 y1 y2 y3 y4 y5 y6 y7 y8 y9 y10 0 0 none 0 0 ka1 n kc1 0 fa1 n fc1 none 0 0 0 0 0 [] (List.replicate n lk0) (List.replicate n 0) [] (fun e he => by cases he) (fun x hx => by cases hx) (by omega) (by omega) HG.out).mono ?_
      rintro e v1 ⟨⟨xg, rfl, hxg⟩, hb⟩
      obtain rfl : xg = false := by cases xg with | false => rfl | true => exact absurd (hxg.1 rfl) HGN.out
      replace HL := Lib.hid (low_after HL.out hb)
      clear hb hxg
      go_wp2_with fail
      go_ret
      exact ⟨rfl, HL.out⟩
    | true =>
      obtain ⟨rfl, hok, hy0⟩ := HY.out HXB.out.symm
      have HGN := Lib.hid (gate_new (n := n) hok hy0)
      clear HY HNO HXB hok hy0
      go_upto_region 10 with fail
      have HGW := Lib.hid (show w3.heap.size ≤ w3.heap.size from Nat.le_refl _)
      go_loopw [5] (fun i wr => ∃ j : Nat, j ≤ n ∧ i = .int .i64 ((j : Int) + 1) ∧ Hid (Below w.heap.size w wr) ∧ Hid (Box wr kc 27 [.int .i64 (n : Int), .int .i64 qu, .int .i64 wi, .int .i64 ti, .int .i64 qa, .int .i64 bu, .int .i64 le, .int .i64 pb, .int .i64 pc, .int .i64 pj, .int .i64 pt]) ∧ Hid (Box wr kg 33 [.int .i64 y0, .int .i64 y1, .int .i64 y2, .int .i64 y3, .int .i64 y4, .int .i64 y5, .int .i64 y6, .int .i64 y7, .int .i64 y8, .int .i64 y9, .int .i64 y10, .int .i64 0, .int .i64 0, .slice none 0 0, .slice ka1 n kc1, .int .i64 0, .slice fa1 n fc1, .slice none 0 0, .int .i64 0, .int .i64 0, .int .i64 0]) ∧ Hid (GIs wr.heap.size wr none 0 ka1 n fa1 n none 0 [] (List.replicate n lk0) (List.replicate n 0) [])) (fun i _ => n + 1 - (intOf i).toNat)
      case atStart => exact ⟨0, by omega, rfl, HL, HX, HB, HG⟩
      case round =>
        obtain ⟨j, hj, rfl, HLr, HXr, HBr, HGr⟩ := hrel
        have c0 := HXr.out.cell 0 _ rfl
        by_cases hlt : (j : Int) + 1 ≤ (n : Int)
        · have hjl : j < (List.replicate n lk0).length := by rw [List.length_replicate]; omega
          obtain ⟨bk, ok, up, ep, sq, y, fk, fl, gk, rfl, hbk, hlj, hyk, d0, d1, d2, d3⟩ := HGr.out.lk.at j hjl
          rw [List.getElem_replicate] at hlj
          obtain rfl : false = up := by injection hlj
          clear hlj hyk hbk d1 d2 d3
          obtain ⟨i, hi⟩ : ∃ i : Int, i = (j : Int) + 1 := ⟨_, rfl⟩
          rw [← hi] at hlt ⊢
          have HI := Lib.hid hi
          have hwi : IntKind.i64.wrap (i - 1) = (j : Int) := by rw [hi]; rw [IntWalk.i64_in _ (by omega)]; omega
          have hwi2 : IntKind.i64.wrap (i + 1) = i + 1 := IntWalk.i64_in _ (by omega)
          have hjn : (j : Int) < (n : Int) := by omega
          clear hi
          go_wp2_with (first | (refine wpList_loadg_box (by rfl) _ 33 rfl rfl HBr.out _ Try.underlying33 sizeGate ?_) | fail)
          refine (implOpenOf_any _ y0 y1 y2 y3 y4 y5 y6 y7 y8 y9 y10 0 0 none 0 0 (some ⟨bk, ok, none⟩) n kc1 0 fa1 n fc1 none 0 0 0 0 0 [] (List.replicate n lk0) (List.replicate n 0) [] i HGr.out).mono ?_
          rintro e v1 ⟨rfl, hb⟩
          rw [show ((openN i [] : Nat) : Int) = 0 from rfl]
          replace d0 := (hb.cell (p := ⟨bk, ok + j * 4, none⟩) (World.block_lt_of_cell? _ _ d0)).trans d0
          replace HLr := Lib.hid (low_after HLr.out hb)
          replace HXr := Lib.hid (HXr.out.below hb)
          replace HBr := Lib.hid (HBr.out.below hb)
          replace HGr := Lib.hid (HGr.out.here hb)
          clear hb
          go_wp2_with (first | (refine wpList_loadg_box (by rfl) _ 33 rfl rfl HBr.out _ Try.underlying33 sizeGate ?_) | fail)
          refine (implReady_nil _ y0 y1 y2 y3 y4 y5 y6 y7 y8 y9 y10 0 0 none 0 (some ⟨bk, ok, none⟩) n kc1 0 fa1 n fc1 none 0 0 0 0 0 i).mono ?_
          rintro e v2 ⟨rfl, hb⟩
          replace d0 := (hb.cell (p := ⟨bk, ok + j * 4, none⟩) (World.block_lt_of_cell? _ _ d0)).trans d0
          replace HLr := Lib.hid (low_after HLr.out hb)
          replace HXr := Lib.hid (HXr.out.below hb)
          replace HBr := Lib.hid (HBr.out.below hb)
          replace HGr := Lib.hid (HGr.out.here hb)
          clear hb
          have z14 := HBr.out.cell 14 _ rfl
          go_wp2_with fail
          go_roundw
          case rel => exact ⟨j + 1, by have := HI.out; omega, by rw [HI.out]; rfl, by trivial⟩
          case measure => simp [intOf]; have := HI.out; omega
        · clear HX HB HG HL
          go_wp2_with (first | (refine wpList_loadg_box (by rfl) _ 33 rfl rfl HBr.out _ Try.underlying33 sizeGate ?_) | fail)
          refine (implGateOk_any _ y0 y1 y2 y3 y4 y5 y6 y7 y8 y9 y10 0 0 none 0 0 ka1 n kc1 0 fa1 n fc1 none 0 0 0 0 0 [] (List.replicate n lk0) (List.replicate n 0) [] (fun e he => by cases he) (fun x hx => by cases hx) (by omega) (by omega) HGr.out).mono ?_
          rintro e v1 ⟨⟨xg, rfl, hxg⟩, hb⟩
          obtain rfl : xg = true := hxg.2 HGN.out
          replace HLr := Lib.hid (low_after HLr.out hb)
          replace HBr := Lib.hid (HBr.out.below hb)
          replace HGr := Lib.hid (HGr.out.here hb)
          clear hb hxg c0
          have z13 := HBr.out.cell 13 _ rfl
          have z11 := HBr.out.cell 11 _ rfl
          go_wp2_with (first | (refine wpList_loadg_box (by rfl) _ 33 rfl rfl HBr.out _ Try.underlying33 sizeGate ?_) | fail)
          refine (implEventAt_any _ y0 y1 y2 y3 y4 y5 y6 y7 y8 y9 y10 0 0 none 0 0 ka1 n kc1 0 fa1 n fc1 none 0 0 0 0 0 [] (List.replicate n lk0) (List.replicate n 0) [] 1 (by decide) (fun e he => by cases he) (by omega) HGr.out).mono ?_
          rintro e v2 ⟨rfl, hb⟩
          rw [show atI 1 [] = -1 from rfl]
          replace HLr := Lib.hid (low_after HLr.out hb)
          clear hb
          go_wp2_with fail
          go_ret
          exact ⟨rfl, HLr.out⟩

end Go.Proofs.Ytecfomaapomncaa.Gat
