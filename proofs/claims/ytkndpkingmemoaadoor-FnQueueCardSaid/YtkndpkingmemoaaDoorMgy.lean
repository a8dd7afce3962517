/-
  NewGate: the walks, of the program and of the specification.
  The laws' config: a right Config with few Devices.
  NewGate of the specification: the walk.
  A new gate's lists, read (for seats whose dump lacks the marks of lists).
-/
import Derived.Test.YtkndpkingmemoaaDoorMgc
import Derived.Test.YtkndpkingmemoaaDoorMgk
import Derived.Test.YtkndpkingmemoaaDoorMgd
import Derived.Deep.DeepCutAuto
import Derived.Test.YtkndpkingmemoaaDoorMgx
import Derived.Test.YtkndpkingmemoaaDoorMge
import Derived.Test.YtkndpkingmemoaaDoorMgg
namespace Go.Proofs.YtkndpkingmemoaaDoor.Gat
open Go.RowKit
open Lnk (bOne bAfter IOwn IIs below_keep below_drew' bcell low_after low_alloc grown_of_below)
set_option linter.unusedVariables false

theorem sizeCfg : (Tryd.prog.info? 27).map (·.size) = some 11 := by kernel_rfl
def LinksMade (w : World) (n : Nat) (v : Value) (w' : World) : Prop := v = .slice (some ⟨w.heap.size, 0, none⟩) n n ∧ ROwn lrS w.heap.size w' 44 v (List.replicate n lr0) ∧ Below w.heap.size w w'
def IntsMade (w : World) (n : Nat) (v : Value) (w' : World) : Prop := v = .slice (some ⟨w.heap.size, 0, none⟩) n n ∧ IOwn w.heap.size w' v (List.replicate n 0) ∧ Below w.heap.size w w'
theorem make_links (w : World) (n : Nat) (hn : n ≤ 1000) : ∃ v' w', (Instr.makeSlice 30 (.int .i64 n) (.int .i64 n)).run Tryd.prog w = .ok v' w' ∧ LinksMade w n v' w' := by
  obtain ⟨i0, hi, hz0, hz1, hz2⟩ := info_parts infoLink
  obtain ⟨w', hrun, hown, hg⟩ := run_make_full (P := Tryd.prog) w w.heap.size 30 44 i0 (.agg #[.bool false, .int .i64 0, .int .i64 0, .slice none 0 0]) 4 Tryd.underlying30 hi hz0 hz1 .i64 .i64 n (by rw [hz2]; omega) (by unfold maxLen; omega) (Nat.le_refl _)
  refine ⟨_, w', hrun, rfl, ?_, (Below.refl _ _).grown hg (Nat.le_refl _) (fun k e => by cases e)⟩
  have hm := flatF_made lrS (.agg #[.bool false, .int .i64 0, .int .i64 0, .slice none 0 0]) lr0 n (by decide) rfl
  unfold ROwn
  rw [show (madeCells (Value.agg #[.bool false, .int .i64 0, .int .i64 0, .slice none 0 0]).cells (n * 4)).toList = flatF lrS (List.replicate n lr0) from hm] at hown
  rw [List.length_replicate]
  exact hown
theorem make_ints (w : World) (n : Nat) (hn : n ≤ 1000) : ∃ v' w', (Instr.makeSlice 31 (.int .i64 n) (.int .i64 n)).run Tryd.prog w = .ok v' w' ∧ IntsMade w n v' w' := by
  obtain ⟨i0, hi, hz0, hz1, hz2⟩ := info_parts infoInt'
  obtain ⟨w', hrun, hown, hg⟩ := run_make_full (P := Tryd.prog) w w.heap.size 31 3 i0 (.int .i64 0) 1 Tryd.underlying31 hi hz0 hz1 .i64 .i64 n (by rw [hz2]; omega) (by unfold maxLen; omega) (Nat.le_refl _)
  refine ⟨_, w', hrun, rfl, ?_, (Below.refl _ _).grown hg (Nat.le_refl _) (fun k e => by cases e)⟩
  rw [show (Value.int IntKind.i64 0).cells = #[.int .i64 0] from rfl, Nat.mul_one, toList_madeCells_one] at hown
  unfold IOwn
  simpa using hown

/-- a new gate that was handed back, its lists its own -/
def NewEnd (w w' : World) (n : Nat) (qu wi ti qa bu le pb pc pj pt : Int) (e : Ending) : Prop :=
  (∃ gk gf, e = .returned (.agg #[.int .i64 n, .int .i64 qu, .int .i64 wi, .int .i64 ti, .int .i64 qa, .int .i64 bu, .int .i64 le, .int .i64 pb, .int .i64 pc, .int .i64 pj, .int .i64 pt, .int .i64 0, .int .i64 0, .slice none 0 0, .slice (some ⟨gk, 0, none⟩) n n, .int .i64 0, .slice (some ⟨gf, 0, none⟩) n n, .slice none 0 0, .int .i64 0, .int .i64 0, .int .i64 0]) ∧ ROwn lrS w.heap.size w' 44 (.slice (some ⟨gk, 0, none⟩) n n) (List.replicate n lr0) ∧ IOwn w.heap.size w' (.slice (some ⟨gf, 0, none⟩) n n) (List.replicate n 0)) ∧ Below w.heap.size w w'

set_option maxRecDepth 100000 in
set_option maxHeartbeats 4000000 in
theorem implNew_yes (w : World) (n : Nat) (qu wi ti qa bu le pb pc pj pt : Int) (hn : n ≤ 1000) (hyes : cfgB (n : Int) qu wi ti qa bu le pb pc pj pt = true) :
    Calls Tryd.prog 7 #[.agg #[.int .i64 n, .int .i64 qu, .int .i64 wi, .int .i64 ti, .int .i64 qa, .int .i64 bu, .int .i64 le, .int .i64 pb, .int .i64 pc, .int .i64 pj, .int .i64 pt]] w fun e w' => NewEnd w w' n qu wi ti qa bu le pb pc pj pt e := by
  obtain ⟨W0, hW0⟩ : ∃ W, W = (w.alloc (.cells #[.int .i64 n, .int .i64 qu, .int .i64 wi, .int .i64 ti, .int .i64 qa, .int .i64 bu, .int .i64 le, .int .i64 pb, .int .i64 pc, .int .i64 pj, .int .i64 pt] 27)).alloc (.cells #[.int .i64 0, .int .i64 0, .int .i64 0, .int .i64 0, .int .i64 0, .int .i64 0, .int .i64 0, .int .i64 0, .int .i64 0, .int .i64 0, .int .i64 0, .int .i64 0, .int .i64 0, .slice none 0 0, .slice none 0 0, .int .i64 0, .slice none 0 0, .slice none 0 0, .int .i64 0, .int .i64 0, .int .i64 0] 33) := ⟨_, rfl⟩
  have hb2 := bOne (w.alloc (.cells #[.int .i64 n, .int .i64 qu, .int .i64 wi, .int .i64 ti, .int .i64 qa, .int .i64 bu, .int .i64 le, .int .i64 pb, .int .i64 pc, .int .i64 pj, .int .i64 pt] 27)) (.cells #[.int .i64 0, .int .i64 0, .int .i64 0, .int .i64 0, .int .i64 0, .int .i64 0, .int .i64 0, .int .i64 0, .int .i64 0, .int .i64 0, .int .i64 0, .int .i64 0, .int .i64 0, .slice none 0 0, .slice none 0 0, .int .i64 0, .slice none 0 0, .slice none 0 0, .int .i64 0, .int .i64 0, .int .i64 0] 33)
  have HC : Hid (Box W0 w.heap.size 27 [.int .i64 n, .int .i64 qu, .int .i64 wi, .int .i64 ti, .int .i64 qa, .int .i64 bu, .int .i64 le, .int .i64 pb, .int .i64 pc, .int .i64 pj, .int .i64 pt]) := Lib.hid (by rw [hW0]; exact (Box.new w [.int .i64 n, .int .i64 qu, .int .i64 wi, .int .i64 ti, .int .i64 qa, .int .i64 bu, .int .i64 le, .int .i64 pb, .int .i64 pc, .int .i64 pj, .int .i64 pt] 27).below hb2)
  have HR : Hid (Box W0 (w.heap.size + 1) 33 [.int .i64 0, .int .i64 0, .int .i64 0, .int .i64 0, .int .i64 0, .int .i64 0, .int .i64 0, .int .i64 0, .int .i64 0, .int .i64 0, .int .i64 0, .int .i64 0, .int .i64 0, .slice none 0 0, .slice none 0 0, .int .i64 0, .slice none 0 0, .slice none 0 0, .int .i64 0, .int .i64 0, .int .i64 0]) := Lib.hid (by
    rw [hW0]
    have := Box.new (w.alloc (.cells #[.int .i64 n, .int .i64 qu, .int .i64 wi, .int .i64 ti, .int .i64 qa, .int .i64 bu, .int .i64 le, .int .i64 pb, .int .i64 pc, .int .i64 pj, .int .i64 pt] 27)) [.int .i64 0, .int .i64 0, .int .i64 0, .int .i64 0, .int .i64 0, .int .i64 0, .int .i64 0, .int .i64 0, .int .i64 0, .int .i64 0, .int .i64 0, .int .i64 0, .int .i64 0, .slice none 0 0, .slice none 0 0, .int .i64 0, .slice none 0 0, .slice none 0 0, .int .i64 0, .int .i64 0, .int .i64 0] 33
    simpa using this)
  have HL : Hid (Below w.heap.size w W0) := Lib.hid (by rw [hW0]; exact (bOne w (.cells #[.int .i64 n, .int .i64 qu, .int .i64 wi, .int .i64 ti, .int .i64 qa, .int .i64 bu, .int .i64 le, .int .i64 pb, .int .i64 pc, .int .i64 pj, .int .i64 pt] 27)).trans (hb2.mono (by simp)))
  have HWE := Lib.hid hW0
  clear hW0 hb2
  go_enter Tryd.func7, Tryd.ntmps7
  go_upto_region 1 with fail
  rw [← HWE.out]
  clear HWE
  go_upto_region 3 with (first | (refine wpList_load_box rfl _ 27 rfl rfl HC.out _ Tryd.underlying27 sizeCfg ?_) | fail)
  refine (implCfg_any (n : Int) qu wi ti qa bu le pb pc pj pt _).mono ?_
  rintro e w1 ⟨rfl, hb⟩
  replace HC := Lib.hid (HC.out.below hb)
  replace HR := Lib.hid (HR.out.below hb)
  replace HL := Lib.hid (low_after HL.out hb)
  clear hb
  rw [hyes]
  go_upto_region 3 with fail
  have HQ := Lib.hid (show Below w1.heap.size w1 w1.drew from below_drew' (Below.refl _ _))
  replace HR := Lib.hid (HR.out.below HQ.out)
  replace HL := Lib.hid (low_after HL.out HQ.out)
  refine wp_region_held_drew (S := fun w' => Box w' w.heap.size 27 [.int .i64 n, .int .i64 qu, .int .i64 wi, .int .i64 ti, .int .i64 qa, .int .i64 bu, .int .i64 le, .int .i64 pb, .int .i64 pc, .int .i64 pj, .int .i64 pt]) (by kernel_rfl) (HC.out.below HQ.out) (fun hHeld => ?_)
  obtain ⟨wd, hwd⟩ : ∃ x, x = w1.drew := ⟨_, rfl⟩
  rw [← hwd] at HR HL hHeld ⊢
  clear hwd HQ HC
  refine wpAnyH_take (i := 0) (oi := { dst := some _, op := _, type := _, pos := _, after := _, guard := _ }) (v := ?_) rfl (by kernel_rfl) (by kernel_rfl) (by kernel_rfl) (fun _ _ _ h => h) ?_ (by with_reducible assumption) ?_
  rotate_left 1
  focus (refine Or.inl ⟨by rfl, ?_⟩; intro wq hSw; refine exec_load_box ?_ 27 ?_ ?_ hSw _ Tryd.underlying27 sizeCfg; rotate_left 1; rfl; rfl)
  try simp only [Act.put, List.setIfInBounds_toArray, List.set_cons_zero, List.set_cons_succ]
  refine wpAnyH_take (i := 1) (oi := { dst := some _, op := _, type := _, pos := _, after := _, guard := _ }) (v := ?_) rfl (by kernel_rfl) (by kernel_rfl) (by kernel_rfl) (fun _ _ _ h => h) ?_ (by with_reducible assumption) ?_
  rotate_left 1
  focus (refine Or.inl ⟨by rfl, ?_⟩; intro wq hSw; go_simp; try with_reducible rfl)
  try simp only [Act.put, List.setIfInBounds_toArray, List.set_cons_zero, List.set_cons_succ]
  refine wpAnyH_take (i := 2) (oi := { dst := some _, op := _, type := _, pos := _, after := _, guard := _ }) (v := ?_) rfl (by kernel_rfl) (by kernel_rfl) (by kernel_rfl) (fun _ _ _ h => h) ?_ (by with_reducible assumption) ?_
  rotate_left 1
  focus (refine Or.inl ⟨by rfl, ?_⟩; intro wq hSw; have q0 := hSw.cell 0 _ rfl; go_simp; try with_reducible rfl)
  try simp only [Act.put, List.setIfInBounds_toArray, List.set_cons_zero, List.set_cons_succ]
  refine wpAnyH_take (i := 4) (oi := { dst := some _, op := _, type := _, pos := _, after := _, guard := _ }) (v := ?_) rfl (by kernel_rfl) (by kernel_rfl) (by kernel_rfl) (fun _ _ _ h => h) ?_ (by with_reducible assumption) ?_
  rotate_left 1
  focus (refine Or.inl ⟨by rfl, ?_⟩; intro wq hSw; go_simp; try with_reducible rfl)
  try simp only [Act.put, List.setIfInBounds_toArray, List.set_cons_zero, List.set_cons_succ]
  refine wpAnyH_take (i := 5) (oi := { dst := some _, op := _, type := _, pos := _, after := _, guard := _ }) (v := ?_) rfl (by kernel_rfl) (by kernel_rfl) (by kernel_rfl) (fun _ _ _ h => h) ?_ (by with_reducible assumption) ?_
  rotate_left 1
  focus (refine Or.inl ⟨by rfl, ?_⟩; intro wq hSw; have q0 := hSw.cell 0 _ rfl; go_simp; try with_reducible rfl)
  try simp only [Act.put, List.setIfInBounds_toArray, List.set_cons_zero, List.set_cons_succ]
  refine wpAnyH_ready (rs := [3, 6]) (by kernel_rfl) (by simp) ?_
  refine AllReadyH.cons rfl (fun KA hKA => ?_) ?_
  · refine step_make rfl _ _ _ rfl _ _ rfl rfl (make_links _ n hn) ?_
    rintro vKA wKA ⟨rfl, hown, hb⟩
    have HK := Lib.hid hown
    have HBKA := Lib.hid (hHeld.below hb)
    have HSK := Lib.hid HR.out.lt
    replace HR := Lib.hid (HR.out.below hb)
    replace HL := Lib.hid (low_after HL.out hb)
    clear hb hown hHeld
    go_simp
    refine hKA.out _ _ (HBKA.out) (fun hHeld => ?_)
    clear hKA
    try simp only [Act.put, List.setIfInBounds_toArray, List.set_cons_zero, List.set_cons_succ]
    refine wpAnyH_ready (rs := [6]) (by kernel_rfl) (by simp) ?_
    refine AllReadyH.cons rfl (fun KB hKB => ?_) AllReadyH.nil
    refine step_make rfl _ _ _ rfl _ _ rfl rfl (make_ints _ n hn) ?_
    rintro vKB wKB ⟨rfl, hown, hb⟩
    have HF := Lib.hid hown
    have HBKB := Lib.hid (hHeld.below hb)
    have HSF := Lib.hid HR.out.lt
    replace HR := Lib.hid (HR.out.below hb)
    replace HK := Lib.hid (HK.out.below hb)
    replace HL := Lib.hid (low_after HL.out hb)
    clear hb hown hHeld
    go_simp
    refine hKB.out _ _ (HBKB.out) (fun hHeld => ?_)
    clear hKB
    try simp only [Act.put, List.setIfInBounds_toArray, List.set_cons_zero, List.set_cons_succ]
    refine wpAnyH_take (i := 7) (oi := { dst := some _, op := _, type := _, pos := _, after := _, guard := _ }) (v := ?_) rfl (by kernel_rfl) (by kernel_rfl) (by kernel_rfl) (fun _ _ _ h => h) ?_ (by with_reducible assumption) ?_
    rotate_left 1
    focus (refine Or.inl ⟨by rfl, ?_⟩; intro wq hSw; go_simp; try with_reducible rfl)
    try simp only [Act.put, List.setIfInBounds_toArray, List.set_cons_zero, List.set_cons_succ]
    refine wpAnyH_ready (rs := [8]) (by kernel_rfl) (by simp) ?_
    refine AllReadyH.cons rfl (fun KS hKS => ?_) AllReadyH.nil
    refine step_store_box rfl _ _ 33 rfl rfl [.int .i64 n, .int .i64 qu, .int .i64 wi, .int .i64 ti, .int .i64 qa, .int .i64 bu, .int .i64 le, .int .i64 pb, .int .i64 pc, .int .i64 pj, .int .i64 pt, .int .i64 0, .int .i64 0, .slice none 0 0, .slice (some ⟨wd.heap.size, 0, none⟩) n n, .int .i64 0, .slice (some ⟨wKA.heap.size, 0, none⟩) n n, .slice none 0 0, .int .i64 0, .int .i64 0, .int .i64 0] rfl HR.out sizeGate rfl rfl ?_
    rintro V hXb hgV hlV
    have HX := Lib.hid hXb
    have HGV := Lib.hid hgV
    have HLV := Lib.hid (hlV w.heap.size w (by omega) HL.out)
    have HBV := Lib.hid (hHeld.grown hgV (by simp))
    clear hXb hgV hlV hHeld
    go_simp
    refine hKS.out _ _ (HBV.out) (fun hHeld => ?_)
    clear hKS
    try simp only [Act.put, List.setIfInBounds_toArray, List.set_cons_zero, List.set_cons_succ]
    refine wpAnyH_done (by kernel_rfl) ?_ _
    go_wp2_with fail
    refine bodyPost_ret (results_box _ Tryd.results7 rfl HX.out _ Tryd.underlying33 sizeGate) rfl ⟨⟨_, _, rfl, ?_, ?_⟩, HLV.out⟩
    · exact (HK.out.base (by have := HSK.out; omega)).grown HGV.out (.inr (by simp [Value.ownBlock]; have := HSK.out; omega))
    · exact (HF.out.base (by have := HSF.out; omega)).grown HGV.out (.inr (by simp [Value.ownBlock]; have := HSF.out; omega))
  · refine AllReadyH.cons rfl (fun KB hKB => ?_) AllReadyH.nil
    refine step_make rfl _ _ _ rfl _ _ rfl rfl (make_ints _ n hn) ?_
    rintro vKB wKB ⟨rfl, hown, hb⟩
    have HF := Lib.hid hown
    have HBKB := Lib.hid (hHeld.below hb)
    have HSF := Lib.hid HR.out.lt
    replace HR := Lib.hid (HR.out.below hb)
    replace HL := Lib.hid (low_after HL.out hb)
    clear hb hown hHeld
    go_simp
    refine hKB.out _ _ (HBKB.out) (fun hHeld => ?_)
    clear hKB
    try simp only [Act.put, List.setIfInBounds_toArray, List.set_cons_zero, List.set_cons_succ]
    refine wpAnyH_ready (rs := [3]) (by kernel_rfl) (by simp) ?_
    refine AllReadyH.cons rfl (fun KA hKA => ?_) AllReadyH.nil
    refine step_make rfl _ _ _ rfl _ _ rfl rfl (make_links _ n hn) ?_
    rintro vKA wKA ⟨rfl, hown, hb⟩
    have HK := Lib.hid hown
    have HBKA := Lib.hid (hHeld.below hb)
    have HSK := Lib.hid HR.out.lt
    replace HR := Lib.hid (HR.out.below hb)
    replace HF := Lib.hid (HF.out.below hb)
    replace HL := Lib.hid (low_after HL.out hb)
    clear hb hown hHeld
    go_simp
    refine hKA.out _ _ (HBKA.out) (fun hHeld => ?_)
    clear hKA
    try simp only [Act.put, List.setIfInBounds_toArray, List.set_cons_zero, List.set_cons_succ]
    refine wpAnyH_take (i := 7) (oi := { dst := some _, op := _, type := _, pos := _, after := _, guard := _ }) (v := ?_) rfl (by kernel_rfl) (by kernel_rfl) (by kernel_rfl) (fun _ _ _ h => h) ?_ (by with_reducible assumption) ?_
    rotate_left 1
    focus (refine Or.inl ⟨by rfl, ?_⟩; intro wq hSw; go_simp; try with_reducible rfl)
    try simp only [Act.put, List.setIfInBounds_toArray, List.set_cons_zero, List.set_cons_succ]
    refine wpAnyH_ready (rs := [8]) (by kernel_rfl) (by simp) ?_
    refine AllReadyH.cons rfl (fun KS hKS => ?_) AllReadyH.nil
    refine step_store_box rfl _ _ 33 rfl rfl [.int .i64 n, .int .i64 qu, .int .i64 wi, .int .i64 ti, .int .i64 qa, .int .i64 bu, .int .i64 le, .int .i64 pb, .int .i64 pc, .int .i64 pj, .int .i64 pt, .int .i64 0, .int .i64 0, .slice none 0 0, .slice (some ⟨wKB.heap.size, 0, none⟩) n n, .int .i64 0, .slice (some ⟨wd.heap.size, 0, none⟩) n n, .slice none 0 0, .int .i64 0, .int .i64 0, .int .i64 0] rfl HR.out sizeGate rfl rfl ?_
    rintro V hXb hgV hlV
    have HX := Lib.hid hXb
    have HGV := Lib.hid hgV
    have HLV := Lib.hid (hlV w.heap.size w (by omega) HL.out)
    have HBV := Lib.hid (hHeld.grown hgV (by simp))
    clear hXb hgV hlV hHeld
    go_simp
    refine hKS.out _ _ (HBV.out) (fun hHeld => ?_)
    clear hKS
    try simp only [Act.put, List.setIfInBounds_toArray, List.set_cons_zero, List.set_cons_succ]
    refine wpAnyH_done (by kernel_rfl) ?_ _
    go_wp2_with fail
    refine bodyPost_ret (results_box _ Tryd.results7 rfl HX.out _ Tryd.underlying33 sizeGate) rfl ⟨⟨_, _, rfl, ?_, ?_⟩, HLV.out⟩
    · exact (HK.out.base (by have := HSK.out; omega)).grown HGV.out (.inr (by simp [Value.ownBlock]; have := HSK.out; omega))
    · exact (HF.out.base (by have := HSF.out; omega)).grown HGV.out (.inr (by simp [Value.ownBlock]; have := HSF.out; omega))

end Go.Proofs.YtkndpkingmemoaaDoor.Gat
namespace Go.Proofs.YtkndpkingmemoaaDoor.Gat
open Go.RowKit Go.Proofs.YtkndpkingmemoaaDoor.Kit
open Lnk (bOne bAfter below_keep below_drew' bcell low_after low_alloc grown_of_below)
open Kit (CodeAt)
open Draw (at_draw)
set_option linter.unusedVariables false
set_option linter.unusedSimpArgs false

theorem sizePolC : (Tryd.prog.info? 25).map (·.size) = some 4 := by kernel_rfl
/-- what the laws' config gives -/
def CfgL (de qu wi ti qa bu le pb pc pj : Int) : Prop := (1 ≤ de ∧ de ≤ 3) ∧ (1 ≤ qu ∧ qu ≤ 4) ∧ (1 ≤ wi ∧ wi ≤ 3) ∧ (1 ≤ ti ∧ ti ≤ 6) ∧ (1 ≤ qa ∧ qa ≤ 5) ∧ (1 ≤ bu ∧ bu ≤ de) ∧ (1 ≤ le ∧ le ≤ 3) ∧ (1 ≤ pb ∧ pb ≤ 3) ∧ (4 ≤ pc ∧ pc ≤ 12) ∧ (0 ≤ pj ∧ pj ≤ 2)
theorem CfgL.ok {de qu wi ti qa bu le pb pc pj : Int} (h : CfgL de qu wi ti qa bu le pb pc pj) : CfgOk de qu wi ti qa bu le pb pc pj 1000 := by
  unfold CfgL at h
  unfold CfgOk Pol.PolOk
  omega

set_option maxRecDepth 100000 in
set_option maxHeartbeats 4000000 in
theorem config_any (w : World) (a : Option Addr) (len cap : Nat) (hc : CodeAt w.heap.size w a len cap) :
    Calls Tryd.prog 6 #[.slice a len cap] w fun e w' => (∃ de qu wi ti qa bu le pb pc pj, e = .returned (.agg #[.int .i64 de, .int .i64 qu, .int .i64 wi, .int .i64 ti, .int .i64 qa, .int .i64 bu, .int .i64 le, .int .i64 pb, .int .i64 pc, .int .i64 pj, .int .i64 1000]) ∧ CfgL de qu wi ti qa bu le pb pc pj) ∧ Below w.heap.size w w' := by
  have HC := Lib.hid hc
  have HR := Lib.hid (Box.new w [.int .i64 0, .int .i64 0, .int .i64 0, .int .i64 0, .int .i64 0, .int .i64 0, .int .i64 0, .int .i64 0, .int .i64 0, .int .i64 0, .int .i64 0] 27)
  obtain ⟨W0, hW0⟩ : ∃ W, W = w.alloc (.cells #[.int .i64 0, .int .i64 0, .int .i64 0, .int .i64 0, .int .i64 0, .int .i64 0, .int .i64 0, .int .i64 0, .int .i64 0, .int .i64 0, .int .i64 0] 27) := ⟨_, rfl⟩
  have HL := Lib.hid (show Below w.heap.size w W0 by rw [hW0]; exact bOne _ _)
  rw [← hW0] at HR
  have HSZ := Lib.hid (show w.heap.size < W0.heap.size by rw [hW0]; simp)
  have HWE := Lib.hid hW0
  clear hc hW0
  go_enter Tryd.func6, Tryd.ntmps6
  go_upto_region 1 with fail
  rw [← HWE.out]
  clear HWE
  go_wp2_with fail
  refine (at_draw W0 w.heap.size a len cap (HC.out.below (HL.out)) 0 (by omega)).mono ?_
  rintro e v ⟨⟨z, hz0, hz1, rfl⟩, hvw⟩
  subst hvw
  obtain ⟨r, hr⟩ : ∃ r, Int.tmod z 3 = r := ⟨_, rfl⟩
  have hr0 : 0 ≤ r := by rw [← hr]; exact Int.tmod_nonneg _ hz0
  have hr1 : r < 3 := by rw [← hr]; exact Int.tmod_lt_of_pos _ (by omega)
  have hwr : IntKind.i64.wrap r = r := IntWalk.i64_in _ (by omega)
  obtain ⟨de, hde⟩ : ∃ q, q = 1 + r := ⟨_, rfl⟩
  have hwq : IntKind.i64.wrap (1 + r) = de := by rw [← hde]; exact IntWalk.i64_in _ (by omega)
  have bde : 1 ≤ de ∧ de ≤ 3 := by omega
  have hdne : ¬ de = 0 := by omega
  clear hde
  go_wp2_with fail
  clear hz0 hz1 hr hr0 hr1 hwr hwq
  refine (at_draw W0 w.heap.size a len cap (HC.out.below (HL.out)) 1 (by omega)).mono ?_
  rintro e v ⟨⟨z, hz0, hz1, rfl⟩, hvw⟩
  subst hvw
  obtain ⟨r, hr⟩ : ∃ r, Int.tmod z 3 = r := ⟨_, rfl⟩
  have hr0 : 0 ≤ r := by rw [← hr]; exact Int.tmod_nonneg _ hz0
  have hr1 : r < 3 := by rw [← hr]; exact Int.tmod_lt_of_pos _ (by omega)
  have hwr : IntKind.i64.wrap r = r := IntWalk.i64_in _ (by omega)
  obtain ⟨pb, hpb⟩ : ∃ q, q = 1 + r := ⟨_, rfl⟩
  have hwq : IntKind.i64.wrap (1 + r) = pb := by rw [← hpb]; exact IntWalk.i64_in _ (by omega)
  have bpb : 1 ≤ pb ∧ pb ≤ 3 := by omega
  clear hpb
  go_wp2_with fail
  clear hz0 hz1 hr hr0 hr1 hwr hwq
  refine (at_draw W0 w.heap.size a len cap (HC.out.below (HL.out)) 2 (by omega)).mono ?_
  rintro e v ⟨⟨z, hz0, hz1, rfl⟩, hvw⟩
  subst hvw
  obtain ⟨r, hr⟩ : ∃ r, Int.tmod z 9 = r := ⟨_, rfl⟩
  have hr0 : 0 ≤ r := by rw [← hr]; exact Int.tmod_nonneg _ hz0
  have hr1 : r < 9 := by rw [← hr]; exact Int.tmod_lt_of_pos _ (by omega)
  have hwr : IntKind.i64.wrap r = r := IntWalk.i64_in _ (by omega)
  obtain ⟨pc, hpc⟩ : ∃ q, q = 4 + r := ⟨_, rfl⟩
  have hwq : IntKind.i64.wrap (4 + r) = pc := by rw [← hpc]; exact IntWalk.i64_in _ (by omega)
  have bpc : 4 ≤ pc ∧ pc ≤ 12 := by omega
  clear hpc
  go_wp2_with fail
  clear hz0 hz1 hr hr0 hr1 hwr hwq
  refine (at_draw W0 w.heap.size a len cap (HC.out.below (HL.out)) 3 (by omega)).mono ?_
  rintro e v ⟨⟨z, hz0, hz1, rfl⟩, hvw⟩
  subst hvw
  obtain ⟨r, hr⟩ : ∃ r, Int.tmod z 3 = r := ⟨_, rfl⟩
  have hr0 : 0 ≤ r := by rw [← hr]; exact Int.tmod_nonneg _ hz0
  have hr1 : r < 3 := by rw [← hr]; exact Int.tmod_lt_of_pos _ (by omega)
  have hwr : IntKind.i64.wrap r = r := IntWalk.i64_in _ (by omega)
  obtain ⟨pj, hpj⟩ : ∃ q, q = r := ⟨_, rfl⟩
  rw [← hpj] at hwr hr
  have bpj : 0 ≤ pj ∧ pj ≤ 2 := by omega
  clear hpj
  go_upto_region 3 with fail
  clear hz0 hz1 hr hr0 hr1 hwr
  obtain ⟨V0, hV0⟩ : ∃ V, V = W0.alloc (.cells #[.int .i64 pb, .int .i64 pc, .int .i64 pj, .int .i64 1000] 25) := ⟨_, rfl⟩
  have HP := Lib.hid (show Box V0 W0.heap.size 25 [.int .i64 pb, .int .i64 pc, .int .i64 pj, .int .i64 1000] by rw [hV0]; exact Box.new W0 [.int .i64 pb, .int .i64 pc, .int .i64 pj, .int .i64 1000] 25)
  have hb := bOne W0 (.cells #[.int .i64 pb, .int .i64 pc, .int .i64 pj, .int .i64 1000] 25)
  rw [← hV0] at hb ⊢
  replace HR := Lib.hid (HR.out.below hb)
  replace HL := Lib.hid (low_after HL.out hb)
  obtain ⟨kp, hkp⟩ : ∃ k, k = W0.heap.size := ⟨_, rfl⟩
  have HKP := Lib.hid (show w.heap.size < kp by rw [hkp]; exact HSZ.out)
  rw [← hkp] at HP ⊢
  clear hb hV0 hkp
  have hb := below_drew' (Below.refl V0.heap.size V0)
  replace HR := Lib.hid (HR.out.below hb)
  replace HP := Lib.hid (HP.out.below hb)
  replace HL := Lib.hid (low_after HL.out hb)
  clear hb
  refine wp_region_held_drew (S := fun w' => Box w' kp 25 [.int .i64 pb, .int .i64 pc, .int .i64 pj, .int .i64 1000]) (by kernel_rfl) HP.out (fun hHeld => ?_)
  obtain ⟨wd, hwd⟩ : ∃ x, x = V0.drew := ⟨_, rfl⟩
  rw [← hwd] at HR HP HL hHeld ⊢
  clear hwd
  refine wpAnyH_take (i := 0) (oi := { dst := some _, op := _, type := _, pos := _, after := _, guard := _ }) (v := ?_) rfl (by kernel_rfl) (by kernel_rfl) (by kernel_rfl) (fun _ _ _ h => h) ?_ (by with_reducible assumption) ?_
  rotate_left 1
  focus (refine Or.inl ⟨by rfl, ?_⟩; intro wq hSw; go_simp; try with_reducible rfl)
  try simp only [Act.put, List.setIfInBounds_toArray, List.set_cons_zero, List.set_cons_succ]
  refine wpAnyH_take (i := 26) (oi := { dst := some _, op := _, type := _, pos := _, after := _, guard := _ }) (v := ?_) rfl (by kernel_rfl) (by kernel_rfl) (by kernel_rfl) (fun _ _ _ h => h) ?_ (by with_reducible assumption) ?_
  rotate_left 1
  focus (refine Or.inl ⟨by rfl, ?_⟩; intro wq hSw; refine exec_load_box ?_ 25 ?_ ?_ hSw _ Tryd.underlying25 sizePolC; rotate_left 1; rfl; rfl)
  try simp only [Act.put, List.setIfInBounds_toArray, List.set_cons_zero, List.set_cons_succ]
  refine wpAnyH_take (i := 1) (oi := { dst := some _, op := _, type := _, pos := _, after := _, guard := _ }) (v := ?_) rfl (by kernel_rfl) (by kernel_rfl) (by kernel_rfl) (fun _ _ _ h => h) ?_ (by with_reducible assumption) ?_
  rotate_left 1
  focus (refine Or.inl ⟨by rfl, ?_⟩; intro wq hSw; go_simp; try with_reducible rfl)
  try simp only [Act.put, List.setIfInBounds_toArray, List.set_cons_zero, List.set_cons_succ]
  refine wpAnyH_take (i := 5) (oi := { dst := some _, op := _, type := _, pos := _, after := _, guard := _ }) (v := ?_) rfl (by kernel_rfl) (by kernel_rfl) (by kernel_rfl) (fun _ _ _ h => h) ?_ (by with_reducible assumption) ?_
  rotate_left 1
  focus (refine Or.inl ⟨by rfl, ?_⟩; intro wq hSw; go_simp; try with_reducible rfl)
  try simp only [Act.put, List.setIfInBounds_toArray, List.set_cons_zero, List.set_cons_succ]
  refine wpAnyH_take (i := 9) (oi := { dst := some _, op := _, type := _, pos := _, after := _, guard := _ }) (v := ?_) rfl (by kernel_rfl) (by kernel_rfl) (by kernel_rfl) (fun _ _ _ h => h) ?_ (by with_reducible assumption) ?_
  rotate_left 1
  focus (refine Or.inl ⟨by rfl, ?_⟩; intro wq hSw; go_simp; try with_reducible rfl)
  try simp only [Act.put, List.setIfInBounds_toArray, List.set_cons_zero, List.set_cons_succ]
  refine wpAnyH_take (i := 13) (oi := { dst := some _, op := _, type := _, pos := _, after := _, guard := _ }) (v := ?_) rfl (by kernel_rfl) (by kernel_rfl) (by kernel_rfl) (fun _ _ _ h => h) ?_ (by with_reducible assumption) ?_
  rotate_left 1
  focus (refine Or.inl ⟨by rfl, ?_⟩; intro wq hSw; go_simp; try with_reducible rfl)
  try simp only [Act.put, List.setIfInBounds_toArray, List.set_cons_zero, List.set_cons_succ]
  refine wpAnyH_take (i := 17) (oi := { dst := some _, op := _, type := _, pos := _, after := _, guard := _ }) (v := ?_) rfl (by kernel_rfl) (by kernel_rfl) (by kernel_rfl) (fun _ _ _ h => h) ?_ (by with_reducible assumption) ?_
  rotate_left 1
  focus (refine Or.inl ⟨by rfl, ?_⟩; intro wq hSw; go_simp; try with_reducible rfl)
  try simp only [Act.put, List.setIfInBounds_toArray, List.set_cons_zero, List.set_cons_succ]
  refine wpAnyH_take (i := 19) (oi := { dst := some _, op := _, type := _, pos := _, after := _, guard := _ }) (v := ?_) rfl (by kernel_rfl) (by kernel_rfl) (by kernel_rfl) (fun _ _ _ h => h) ?_ (by with_reducible assumption) ?_
  rotate_left 1
  focus (refine Or.inl ⟨by rfl, ?_⟩; intro wq hSw; go_simp; try with_reducible rfl)
  try simp only [Act.put, List.setIfInBounds_toArray, List.set_cons_zero, List.set_cons_succ]
  refine wpAnyH_take (i := 22) (oi := { dst := some _, op := _, type := _, pos := _, after := _, guard := _ }) (v := ?_) rfl (by kernel_rfl) (by kernel_rfl) (by kernel_rfl) (fun _ _ _ h => h) ?_ (by with_reducible assumption) ?_
  rotate_left 1
  focus (refine Or.inl ⟨by rfl, ?_⟩; intro wq hSw; go_simp; try with_reducible rfl)
  try simp only [Act.put, List.setIfInBounds_toArray, List.set_cons_zero, List.set_cons_succ]
  refine wpAnyH_ready (rs := [2]) (by kernel_rfl) (by simp) ?_
  refine AllReadyH.cons rfl (fun K2 hK2 => ?_) AllReadyH.nil
  go_simp
  refine (at_draw wd w.heap.size a len cap (HC.out.below (HL.out)) 4 (by omega)).mono ?_
  rintro e v ⟨⟨z, hz0, hz1, rfl⟩, hvw⟩
  subst hvw
  clear hHeld
  dsimp only
  refine hK2.out _ _ (HP.out) (fun hHeld => ?_)
  clear hK2
  try simp only [Act.put, List.setIfInBounds_toArray, List.set_cons_zero, List.set_cons_succ]
  obtain ⟨r, hr⟩ : ∃ r, Int.tmod z 4 = r := ⟨_, rfl⟩
  have hr0 : 0 ≤ r := by rw [← hr]; exact Int.tmod_nonneg _ hz0
  have hr1 : r < 4 := by rw [← hr]; exact Int.tmod_lt_of_pos _ (by omega)
  have hwr : IntKind.i64.wrap r = r := IntWalk.i64_in _ (by omega)
  obtain ⟨qu, hqu⟩ : ∃ q, q = 1 + r := ⟨_, rfl⟩
  have hwq : IntKind.i64.wrap (1 + r) = qu := by rw [← hqu]; exact IntWalk.i64_in _ (by omega)
  have bqu : 1 ≤ qu ∧ qu ≤ 4 := by omega
  clear hqu
  refine wpAnyH_take (i := 3) (oi := { dst := some _, op := _, type := _, pos := _, after := _, guard := _ }) (v := ?_) rfl (by kernel_rfl) (by kernel_rfl) (by kernel_rfl) (fun _ _ _ h => h) ?_ (by with_reducible assumption) ?_
  rotate_left 1
  focus (refine Or.inl ⟨by rfl, ?_⟩; intro wq hSw; go_simp; try with_reducible rfl)
  try simp only [Act.put, List.setIfInBounds_toArray, List.set_cons_zero, List.set_cons_succ]
  refine wpAnyH_take (i := 4) (oi := { dst := some _, op := _, type := _, pos := _, after := _, guard := _ }) (v := ?_) rfl (by kernel_rfl) (by kernel_rfl) (by kernel_rfl) (fun _ _ _ h => h) ?_ (by with_reducible assumption) ?_
  rotate_left 1
  focus (refine Or.inl ⟨by rfl, ?_⟩; intro wq hSw; go_simp; try with_reducible rfl)
  try simp only [Act.put, List.setIfInBounds_toArray, List.set_cons_zero, List.set_cons_succ]
  clear hz0 hz1 hr hr0 hr1 hwr hwq
  refine wpAnyH_ready (rs := [6]) (by kernel_rfl) (by simp) ?_
  refine AllReadyH.cons rfl (fun K6 hK6 => ?_) AllReadyH.nil
  go_simp
  refine (at_draw wd w.heap.size a len cap (HC.out.below (HL.out)) 5 (by omega)).mono ?_
  rintro e v ⟨⟨z, hz0, hz1, rfl⟩, hvw⟩
  subst hvw
  clear hHeld
  dsimp only
  refine hK6.out _ _ (HP.out) (fun hHeld => ?_)
  clear hK6
  try simp only [Act.put, List.setIfInBounds_toArray, List.set_cons_zero, List.set_cons_succ]
  obtain ⟨r, hr⟩ : ∃ r, Int.tmod z 3 = r := ⟨_, rfl⟩
  have hr0 : 0 ≤ r := by rw [← hr]; exact Int.tmod_nonneg _ hz0
  have hr1 : r < 3 := by rw [← hr]; exact Int.tmod_lt_of_pos _ (by omega)
  have hwr : IntKind.i64.wrap r = r := IntWalk.i64_in _ (by omega)
  obtain ⟨wi, hwi⟩ : ∃ q, q = 1 + r := ⟨_, rfl⟩
  have hwq : IntKind.i64.wrap (1 + r) = wi := by rw [← hwi]; exact IntWalk.i64_in _ (by omega)
  have bwi : 1 ≤ wi ∧ wi ≤ 3 := by omega
  clear hwi
  refine wpAnyH_take (i := 7) (oi := { dst := some _, op := _, type := _, pos := _, after := _, guard := _ }) (v := ?_) rfl (by kernel_rfl) (by kernel_rfl) (by kernel_rfl) (fun _ _ _ h => h) ?_ (by with_reducible assumption) ?_
  rotate_left 1
  focus (refine Or.inl ⟨by rfl, ?_⟩; intro wq hSw; go_simp; try with_reducible rfl)
  try simp only [Act.put, List.setIfInBounds_toArray, List.set_cons_zero, List.set_cons_succ]
  refine wpAnyH_take (i := 8) (oi := { dst := some _, op := _, type := _, pos := _, after := _, guard := _ }) (v := ?_) rfl (by kernel_rfl) (by kernel_rfl) (by kernel_rfl) (fun _ _ _ h => h) ?_ (by with_reducible assumption) ?_
  rotate_left 1
  focus (refine Or.inl ⟨by rfl, ?_⟩; intro wq hSw; go_simp; try with_reducible rfl)
  try simp only [Act.put, List.setIfInBounds_toArray, List.set_cons_zero, List.set_cons_succ]
  clear hz0 hz1 hr hr0 hr1 hwr hwq
  refine wpAnyH_ready (rs := [10]) (by kernel_rfl) (by simp) ?_
  refine AllReadyH.cons rfl (fun K10 hK10 => ?_) AllReadyH.nil
  go_simp
  refine (at_draw wd w.heap.size a len cap (HC.out.below (HL.out)) 6 (by omega)).mono ?_
  rintro e v ⟨⟨z, hz0, hz1, rfl⟩, hvw⟩
  subst hvw
  clear hHeld
  dsimp only
  refine hK10.out _ _ (HP.out) (fun hHeld => ?_)
  clear hK10
  try simp only [Act.put, List.setIfInBounds_toArray, List.set_cons_zero, List.set_cons_succ]
  obtain ⟨r, hr⟩ : ∃ r, Int.tmod z 6 = r := ⟨_, rfl⟩
  have hr0 : 0 ≤ r := by rw [← hr]; exact Int.tmod_nonneg _ hz0
  have hr1 : r < 6 := by rw [← hr]; exact Int.tmod_lt_of_pos _ (by omega)
  have hwr : IntKind.i64.wrap r = r := IntWalk.i64_in _ (by omega)
  obtain ⟨ti, hti⟩ : ∃ q, q = 1 + r := ⟨_, rfl⟩
  have hwq : IntKind.i64.wrap (1 + r) = ti := by rw [← hti]; exact IntWalk.i64_in _ (by omega)
  have bti : 1 ≤ ti ∧ ti ≤ 6 := by omega
  clear hti
  refine wpAnyH_take (i := 11) (oi := { dst := some _, op := _, type := _, pos := _, after := _, guard := _ }) (v := ?_) rfl (by kernel_rfl) (by kernel_rfl) (by kernel_rfl) (fun _ _ _ h => h) ?_ (by with_reducible assumption) ?_
  rotate_left 1
  focus (refine Or.inl ⟨by rfl, ?_⟩; intro wq hSw; go_simp; try with_reducible rfl)
  try simp only [Act.put, List.setIfInBounds_toArray, List.set_cons_zero, List.set_cons_succ]
  refine wpAnyH_take (i := 12) (oi := { dst := some _, op := _, type := _, pos := _, after := _, guard := _ }) (v := ?_) rfl (by kernel_rfl) (by kernel_rfl) (by kernel_rfl) (fun _ _ _ h => h) ?_ (by with_reducible assumption) ?_
  rotate_left 1
  focus (refine Or.inl ⟨by rfl, ?_⟩; intro wq hSw; go_simp; try with_reducible rfl)
  try simp only [Act.put, List.setIfInBounds_toArray, List.set_cons_zero, List.set_cons_succ]
  clear hz0 hz1 hr hr0 hr1 hwr hwq
  refine wpAnyH_ready (rs := [14]) (by kernel_rfl) (by simp) ?_
  refine AllReadyH.cons rfl (fun K14 hK14 => ?_) AllReadyH.nil
  go_simp
  refine (at_draw wd w.heap.size a len cap (HC.out.below (HL.out)) 7 (by omega)).mono ?_
  rintro e v ⟨⟨z, hz0, hz1, rfl⟩, hvw⟩
  subst hvw
  clear hHeld
  dsimp only
  refine hK14.out _ _ (HP.out) (fun hHeld => ?_)
  clear hK14
  try simp only [Act.put, List.setIfInBounds_toArray, List.set_cons_zero, List.set_cons_succ]
  obtain ⟨r, hr⟩ : ∃ r, Int.tmod z 5 = r := ⟨_, rfl⟩
  have hr0 : 0 ≤ r := by rw [← hr]; exact Int.tmod_nonneg _ hz0
  have hr1 : r < 5 := by rw [← hr]; exact Int.tmod_lt_of_pos _ (by omega)
  have hwr : IntKind.i64.wrap r = r := IntWalk.i64_in _ (by omega)
  obtain ⟨qa, hqa⟩ : ∃ q, q = 1 + r := ⟨_, rfl⟩
  have hwq : IntKind.i64.wrap (1 + r) = qa := by rw [← hqa]; exact IntWalk.i64_in _ (by omega)
  have bqa : 1 ≤ qa ∧ qa ≤ 5 := by omega
  clear hqa
  refine wpAnyH_take (i := 15) (oi := { dst := some _, op := _, type := _, pos := _, after := _, guard := _ }) (v := ?_) rfl (by kernel_rfl) (by kernel_rfl) (by kernel_rfl) (fun _ _ _ h => h) ?_ (by with_reducible assumption) ?_
  rotate_left 1
  focus (refine Or.inl ⟨by rfl, ?_⟩; intro wq hSw; go_simp; try with_reducible rfl)
  try simp only [Act.put, List.setIfInBounds_toArray, List.set_cons_zero, List.set_cons_succ]
  refine wpAnyH_take (i := 16) (oi := { dst := some _, op := _, type := _, pos := _, after := _, guard := _ }) (v := ?_) rfl (by kernel_rfl) (by kernel_rfl) (by kernel_rfl) (fun _ _ _ h => h) ?_ (by with_reducible assumption) ?_
  rotate_left 1
  focus (refine Or.inl ⟨by rfl, ?_⟩; intro wq hSw; go_simp; try with_reducible rfl)
  try simp only [Act.put, List.setIfInBounds_toArray, List.set_cons_zero, List.set_cons_succ]
  clear hz0 hz1 hr hr0 hr1 hwr hwq
  refine wpAnyH_ready (rs := [18]) (by kernel_rfl) (by simp) ?_
  refine AllReadyH.cons rfl (fun K18 hK18 => ?_) AllReadyH.nil
  go_simp
  refine (at_draw wd w.heap.size a len cap (HC.out.below (HL.out)) 8 (by omega)).mono ?_
  rintro e v ⟨⟨z, hz0, hz1, rfl⟩, hvw⟩
  subst hvw
  clear hHeld
  dsimp only
  refine hK18.out _ _ (HP.out) (fun hHeld => ?_)
  clear hK18
  try simp only [Act.put, List.setIfInBounds_toArray, List.set_cons_zero, List.set_cons_succ]
  obtain ⟨r, hr⟩ : ∃ r, Int.tmod z de = r := ⟨_, rfl⟩
  have hr0 : 0 ≤ r := by rw [← hr]; exact Int.tmod_nonneg _ hz0
  have hr1 : r < de := by rw [← hr]; exact Int.tmod_lt_of_pos _ (by omega)
  have hwr : IntKind.i64.wrap r = r := IntWalk.i64_in _ (by omega)
  obtain ⟨bu, hbu⟩ : ∃ q, q = 1 + r := ⟨_, rfl⟩
  have hwq : IntKind.i64.wrap (1 + r) = bu := by rw [← hbu]; exact IntWalk.i64_in _ (by omega)
  have bbu : 1 ≤ bu ∧ bu ≤ de := by omega
  clear hbu
  refine wpAnyH_take (i := 20) (oi := { dst := some _, op := _, type := _, pos := _, after := _, guard := _ }) (v := ?_) rfl (by kernel_rfl) (by kernel_rfl) (by kernel_rfl) (fun _ _ _ h => h) ?_ (by with_reducible assumption) ?_
  rotate_left 1
  focus (refine Or.inl ⟨by rfl, ?_⟩; intro wq hSw; go_simp; try with_reducible rfl)
  try simp only [Act.put, List.setIfInBounds_toArray, List.set_cons_zero, List.set_cons_succ]
  refine wpAnyH_take (i := 21) (oi := { dst := some _, op := _, type := _, pos := _, after := _, guard := _ }) (v := ?_) rfl (by kernel_rfl) (by kernel_rfl) (by kernel_rfl) (fun _ _ _ h => h) ?_ (by with_reducible assumption) ?_
  rotate_left 1
  focus (refine Or.inl ⟨by rfl, ?_⟩; intro wq hSw; go_simp; try with_reducible rfl)
  try simp only [Act.put, List.setIfInBounds_toArray, List.set_cons_zero, List.set_cons_succ]
  clear hz0 hz1 hr hr0 hr1 hwr hwq
  refine wpAnyH_ready (rs := [23]) (by kernel_rfl) (by simp) ?_
  refine AllReadyH.cons rfl (fun K23 hK23 => ?_) AllReadyH.nil
  go_simp
  refine (at_draw wd w.heap.size a len cap (HC.out.below (HL.out)) 9 (by omega)).mono ?_
  rintro e v ⟨⟨z, hz0, hz1, rfl⟩, hvw⟩
  subst hvw
  clear hHeld
  dsimp only
  refine hK23.out _ _ (HP.out) (fun hHeld => ?_)
  clear hK23
  try simp only [Act.put, List.setIfInBounds_toArray, List.set_cons_zero, List.set_cons_succ]
  obtain ⟨r, hr⟩ : ∃ r, Int.tmod z 3 = r := ⟨_, rfl⟩
  have hr0 : 0 ≤ r := by rw [← hr]; exact Int.tmod_nonneg _ hz0
  have hr1 : r < 3 := by rw [← hr]; exact Int.tmod_lt_of_pos _ (by omega)
  have hwr : IntKind.i64.wrap r = r := IntWalk.i64_in _ (by omega)
  obtain ⟨le, hle⟩ : ∃ q, q = 1 + r := ⟨_, rfl⟩
  have hwq : IntKind.i64.wrap (1 + r) = le := by rw [← hle]; exact IntWalk.i64_in _ (by omega)
  have ble : 1 ≤ le ∧ le ≤ 3 := by omega
  clear hle
  refine wpAnyH_take (i := 24) (oi := { dst := some _, op := _, type := _, pos := _, after := _, guard := _ }) (v := ?_) rfl (by kernel_rfl) (by kernel_rfl) (by kernel_rfl) (fun _ _ _ h => h) ?_ (by with_reducible assumption) ?_
  rotate_left 1
  focus (refine Or.inl ⟨by rfl, ?_⟩; intro wq hSw; go_simp; try with_reducible rfl)
  try simp only [Act.put, List.setIfInBounds_toArray, List.set_cons_zero, List.set_cons_succ]
  refine wpAnyH_take (i := 25) (oi := { dst := some _, op := _, type := _, pos := _, after := _, guard := _ }) (v := ?_) rfl (by kernel_rfl) (by kernel_rfl) (by kernel_rfl) (fun _ _ _ h => h) ?_ (by with_reducible assumption) ?_
  rotate_left 1
  focus (refine Or.inl ⟨by rfl, ?_⟩; intro wq hSw; go_simp; try with_reducible rfl)
  try simp only [Act.put, List.setIfInBounds_toArray, List.set_cons_zero, List.set_cons_succ]
  clear hz0 hz1 hr hr0 hr1 hwr hwq
  refine wpAnyH_take (i := 27) (oi := { dst := some _, op := _, type := _, pos := _, after := _, guard := _ }) (v := ?_) rfl (by kernel_rfl) (by kernel_rfl) (by kernel_rfl) (fun _ _ _ h => h) ?_ (by with_reducible assumption) ?_
  rotate_left 1
  focus (refine Or.inl ⟨by rfl, ?_⟩; intro wq hSw; go_simp; try with_reducible rfl)
  try simp only [Act.put, List.setIfInBounds_toArray, List.set_cons_zero, List.set_cons_succ]
  refine wpAnyH_ready (rs := [28]) (by kernel_rfl) (by simp) ?_
  refine AllReadyH.cons rfl (fun KS hKS => ?_) AllReadyH.nil
  refine step_store_box rfl _ _ 27 rfl rfl [.int .i64 de, .int .i64 qu, .int .i64 wi, .int .i64 ti, .int .i64 qa, .int .i64 bu, .int .i64 le, .int .i64 pb, .int .i64 pc, .int .i64 pj, .int .i64 1000] rfl HR.out sizeCfg rfl rfl ?_
  intro V hXb hgV hlV
  replace HP := Lib.hid (HP.out.grown hgV (fun e => by injection e; have := HKP.out; omega))
  clear hHeld
  refine hKS.out _ _ (HP.out) (fun hHeld => ?_)
  clear hKS
  try simp only [Act.put, List.setIfInBounds_toArray, List.set_cons_zero, List.set_cons_succ]
  refine wpAnyH_done (by kernel_rfl) ?_ _
  clear hHeld
  go_wp2_with fail
  exact bodyPost_ret (v := .agg #[.int .i64 de, .int .i64 qu, .int .i64 wi, .int .i64 ti, .int .i64 qa, .int .i64 bu, .int .i64 le, .int .i64 pb, .int .i64 pc, .int .i64 pj, .int .i64 1000]) (results_box _ Tryd.results6 rfl hXb _ Tryd.underlying27 sizeCfg) rfl ⟨⟨de, qu, wi, ti, qa, bu, le, pb, pc, pj, rfl, bde, bqu, bwi, bti, bqa, bbu, ble, bpb, bpc, bpj⟩, hlV w.heap.size w (Nat.le_refl _) HL.out⟩

end Go.Proofs.YtkndpkingmemoaaDoor.Gat
namespace Go.Proofs.YtkndpkingmemoaaDoor.Gat
open Go.RowKit
open Lnk (bOne bAfter IOwn IIs below_keep below_drew' bcell low_after low_alloc grown_of_below)
set_option linter.unusedVariables false

theorem lis_rep {B : Nat} {w : World} {E : TypeId} {a : Option Addr} {n c : Nat} (h : ROwn lrS B w E (.slice a n c) (List.replicate n lr0)) : LIs w.heap.size w a n (List.replicate n lk0) := by
  refine ⟨List.replicate n lr0, h.isN, by simp, fun k hk hk' => ?_⟩
  rw [List.getElem_replicate, List.getElem_replicate]
  exact ⟨rfl, rfl, rfl, none, 0, 0, rfl, Lnk.YIs.nil _ _ _⟩

end Go.Proofs.YtkndpkingmemoaaDoor.Gat
namespace Go.Proofs.YtkndpkingmemoaaDoor.Gat
open Go.RowKit
open Lnk (bOne bAfter IOwn IIs)
set_option linter.unusedVariables false
/-- a struct read whole, at an operation whose guard says yes -/
theorem wpList_load_boxg {P : Program} {w : World} {ops : Array Oper} {rest : List Oper} {o : Oper} {a : Act} {Q : Exit → Act → World → Prop} {k : Nat} {T : TypeId} {l : List Value} (hg : Region.wanted o (yielded ops a.tmps) = true) (p : Operand) (t : TypeId) (hop : o.op = .load t p) (hs : a.eval p = .pointer (some ⟨k, 0, none⟩)) (hb : Box w k T l) (fs : Array Field) (hu : P.underlying t = some (.struct fs)) (hi : (P.info? t).map (·.size) = some l.length)
    (h : wpList P ops Q rest (a.put o.dst (.agg l.toArray)) w) : wpList P ops Q (o :: rest) a w := by
  refine wpList_step fun K' hK' => ?_
  rw [if_pos hg]
  unfold Oper.wp
  rw [exec_load_box (ρ := a.eval) p t hop hs hb fs hu hi]
  exact hK' _ _ h
theorem gis_new0 {B : Nat} {w : World} {ka fa : Option Addr} {n : Nat} (hn : n ≤ 1000) (hk : LIs B w ka n (List.replicate n lk0)) (hf : IIs B w fa n (List.replicate n 0)) : GIs B w none 0 ka n fa n none 0 [] (List.replicate n lk0) (List.replicate n 0) [] :=
  ⟨EIs.nil _ _ _, hk, hf, ⟨rfl, fun k hk => (by simp at hk)⟩, by unfold maxLen; omega, by unfold maxLen; omega⟩
end Go.Proofs.YtkndpkingmemoaaDoor.Gat
