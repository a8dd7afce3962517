/-
  NewGate: the walks, of the program and of the specification.
-/
import Derived.Test.YtecfomaapomncaaGtG
import Derived.Test.YtecfomaapomncaaGtM
import Derived.Test.YtecfomaapomncaaGtB
import Derived.Deep.DeepCutAuto
namespace Go.Proofs.Ytecfomaapomncaa.Gat
open Go.RowKit
open Lnk (bOne bAfter IOwn IIs below_keep below_drew' bcell low_after low_alloc grown_of_below)
set_option linter.unusedVariables false

theorem sizeCfg : (Try.prog.info? 27).map (·.size) = some 11 := by kernel_rfl
def LinksMade (w : World) (n : Nat) (v : Value) (w' : World) : Prop := v = .slice (some ⟨w.heap.size, 0, none⟩) n n ∧ ROwn lrS w.heap.size w' 42 v (List.replicate n lr0) ∧ Below w.heap.size w w'
def IntsMade (w : World) (n : Nat) (v : Value) (w' : World) : Prop := v = .slice (some ⟨w.heap.size, 0, none⟩) n n ∧ IOwn w.heap.size w' v (List.replicate n 0) ∧ Below w.heap.size w w'
theorem make_links (w : World) (n : Nat) (hn : n ≤ 1000) : ∃ v' w', (Instr.makeSlice 30 (.int .i64 n) (.int .i64 n)).run Try.prog w = .ok v' w' ∧ LinksMade w n v' w' := by
  obtain ⟨i0, hi, hz0, hz1, hz2⟩ := info_parts infoLink
  obtain ⟨w', hrun, hown, hg⟩ := run_make_full (P := Try.prog) w w.heap.size 30 42 i0 (.agg #[.bool false, .int .i64 0, .int .i64 0, .slice none 0 0]) 4 Try.underlying30 hi hz0 hz1 .i64 .i64 n (by rw [hz2]; omega) (by unfold maxLen; omega) (Nat.le_refl _)
  refine ⟨_, w', hrun, rfl, ?_, (Below.refl _ _).grown hg (Nat.le_refl _) (fun k e => by cases e)⟩
  have hm := flatF_made lrS (.agg #[.bool false, .int .i64 0, .int .i64 0, .slice none 0 0]) lr0 n (by decide) rfl
  unfold ROwn
  rw [show (madeCells (Value.agg #[.bool false, .int .i64 0, .int .i64 0, .slice none 0 0]).cells (n * 4)).toList = flatF lrS (List.replicate n lr0) from hm] at hown
  rw [List.length_replicate]
  exact hown
theorem make_ints (w : World) (n : Nat) (hn : n ≤ 1000) : ∃ v' w', (Instr.makeSlice 31 (.int .i64 n) (.int .i64 n)).run Try.prog w = .ok v' w' ∧ IntsMade w n v' w' := by
  obtain ⟨i0, hi, hz0, hz1, hz2⟩ := info_parts infoInt'
  obtain ⟨w', hrun, hown, hg⟩ := run_make_full (P := Try.prog) w w.heap.size 31 3 i0 (.int .i64 0) 1 Try.underlying31 hi hz0 hz1 .i64 .i64 n (by rw [hz2]; omega) (by unfold maxLen; omega) (Nat.le_refl _)
  refine ⟨_, w', hrun, rfl, ?_, (Below.refl _ _).grown hg (Nat.le_refl _) (fun k e => by cases e)⟩
  rw [show (Value.int IntKind.i64 0).cells = #[.int .i64 0] from rfl, Nat.mul_one, toList_madeCells_one] at hown
  unfold IOwn
  simpa using hown

/-- a new gate that was handed back, its lists its own -/
def NewEnd (w w' : World) (n : Nat) (qu wi ti qa bu le pb pc pj pt : Int) (e : Ending) : Prop :=
  (∃ gk gf, e = .returned (.agg #[.int .i64 n, .int .i64 qu, .int .i64 wi, .int .i64 ti, .int .i64 qa, .int .i64 bu, .int .i64 le, .int .i64 pb, .int .i64 pc, .int .i64 pj, .int .i64 pt, .int .i64 0, .int .i64 0, .slice none 0 0, .slice (some ⟨gk, 0, none⟩) n n, .int .i64 0, .slice (some ⟨gf, 0, none⟩) n n, .slice none 0 0, .int .i64 0, .int .i64 0, .int .i64 0]) ∧ ROwn lrS w.heap.size w' 42 (.slice (some ⟨gk, 0, none⟩) n n) (List.replicate n lr0) ∧ IOwn w.heap.size w' (.slice (some ⟨gf, 0, none⟩) n n) (List.replicate n 0)) ∧ Below w.heap.size w w'

set_option maxRecDepth 100000 in
set_option maxHeartbeats 4000000 in
theorem implNew_no (w : World) (de qu wi ti qa bu le pb pc pj pt : Int) (hno : cfgB de qu wi ti qa bu le pb pc pj pt = false) :
    Calls Try.prog 11 #[.agg #[.int .i64 de, .int .i64 qu, .int .i64 wi, .int .i64 ti, .int .i64 qa, .int .i64 bu, .int .i64 le, .int .i64 pb, .int .i64 pc, .int .i64 pj, .int .i64 pt]] w fun e w' => e = .returned (.agg #[.int .i64 0, .int .i64 0, .int .i64 0, .int .i64 0, .int .i64 0, .int .i64 0, .int .i64 0, .int .i64 0, .int .i64 0, .int .i64 0, .int .i64 0, .int .i64 0, .int .i64 0, .slice none 0 0, .slice none 0 0, .int .i64 0, .slice none 0 0, .slice none 0 0, .int .i64 0, .int .i64 0, .int .i64 0]) ∧ Below w.heap.size w w' := by
  obtain ⟨W0, hW0⟩ : ∃ W, W = (w.alloc (.cells #[.int .i64 de, .int .i64 qu, .int .i64 wi, .int .i64 ti, .int .i64 qa, .int .i64 bu, .int .i64 le, .int .i64 pb, .int .i64 pc, .int .i64 pj, .int .i64 pt] 27)).alloc (.cells #[.int .i64 0, .int .i64 0, .int .i64 0, .int .i64 0, .int .i64 0, .int .i64 0, .int .i64 0, .int .i64 0, .int .i64 0, .int .i64 0, .int .i64 0, .int .i64 0, .int .i64 0, .slice none 0 0, .slice none 0 0, .int .i64 0, .slice none 0 0, .slice none 0 0, .int .i64 0, .int .i64 0, .int .i64 0] 33) := ⟨_, rfl⟩
  have hb2 := bOne (w.alloc (.cells #[.int .i64 de, .int .i64 qu, .int .i64 wi, .int .i64 ti, .int .i64 qa, .int .i64 bu, .int .i64 le, .int .i64 pb, .int .i64 pc, .int .i64 pj, .int .i64 pt] 27)) (.cells #[.int .i64 0, .int .i64 0, .int .i64 0, .int .i64 0, .int .i64 0, .int .i64 0, .int .i64 0, .int .i64 0, .int .i64 0, .int .i64 0, .int .i64 0, .int .i64 0, .int .i64 0, .slice none 0 0, .slice none 0 0, .int .i64 0, .slice none 0 0, .slice none 0 0, .int .i64 0, .int .i64 0, .int .i64 0] 33)
  have HC : Hid (Box W0 w.heap.size 27 [.int .i64 de, .int .i64 qu, .int .i64 wi, .int .i64 ti, .int .i64 qa, .int .i64 bu, .int .i64 le, .int .i64 pb, .int .i64 pc, .int .i64 pj, .int .i64 pt]) := Lib.hid (by rw [hW0]; exact (Box.new w [.int .i64 de, .int .i64 qu, .int .i64 wi, .int .i64 ti, .int .i64 qa, .int .i64 bu, .int .i64 le, .int .i64 pb, .int .i64 pc, .int .i64 pj, .int .i64 pt] 27).below hb2)
  have HR : Hid (Box W0 (w.heap.size + 1) 33 [.int .i64 0, .int .i64 0, .int .i64 0, .int .i64 0, .int .i64 0, .int .i64 0, .int .i64 0, .int .i64 0, .int .i64 0, .int .i64 0, .int .i64 0, .int .i64 0, .int .i64 0, .slice none 0 0, .slice none 0 0, .int .i64 0, .slice none 0 0, .slice none 0 0, .int .i64 0, .int .i64 0, .int .i64 0]) := Lib.hid (by
    rw [hW0]
    have := Box.new (w.alloc (.cells #[.int .i64 de, .int .i64 qu, .int .i64 wi, .int .i64 ti, .int .i64 qa, .int .i64 bu, .int .i64 le, .int .i64 pb, .int .i64 pc, .int .i64 pj, .int .i64 pt] 27)) [.int .i64 0, .int .i64 0, .int .i64 0, .int .i64 0, .int .i64 0, .int .i64 0, .int .i64 0, .int .i64 0, .int .i64 0, .int .i64 0, .int .i64 0, .int .i64 0, .int .i64 0, .slice none 0 0, .slice none 0 0, .int .i64 0, .slice none 0 0, .slice none 0 0, .int .i64 0, .int .i64 0, .int .i64 0] 33
    simpa using this)
  have HL : Hid (Below w.heap.size w W0) := Lib.hid (by rw [hW0]; exact (bOne w (.cells #[.int .i64 de, .int .i64 qu, .int .i64 wi, .int .i64 ti, .int .i64 qa, .int .i64 bu, .int .i64 le, .int .i64 pb, .int .i64 pc, .int .i64 pj, .int .i64 pt] 27)).trans (hb2.mono (by simp)))
  have HWE := Lib.hid hW0
  clear hW0 hb2
  go_enter Try.func11, Try.ntmps11
  go_upto_region 1 with fail
  rw [← HWE.out]
  clear HWE
  go_wp2_with (first | (refine wpList_load_box rfl _ 27 rfl rfl HC.out _ Try.underlying27 sizeCfg ?_) | fail)
  refine (implCfg_any de qu wi ti qa bu le pb pc pj pt _).mono ?_
  rintro e w1 ⟨rfl, hb⟩
  replace HR := Lib.hid (HR.out.below hb)
  replace HL := Lib.hid (low_after HL.out hb)
  clear hb HC
  rw [hno]
  go_wp2_with (first | (refine wpList_store_box rfl _ _ 33 rfl rfl [.int .i64 0, .int .i64 0, .int .i64 0, .int .i64 0, .int .i64 0, .int .i64 0, .int .i64 0, .int .i64 0, .int .i64 0, .int .i64 0, .int .i64 0, .int .i64 0, .int .i64 0, .slice none 0 0, .slice none 0 0, .int .i64 0, .slice none 0 0, .slice none 0 0, .int .i64 0, .int .i64 0, .int .i64 0] rfl HR.out sizeGate rfl rfl ?_; intro V hXb hgV hlV; have HX := Lib.hid hXb; have HGV := Lib.hid hgV; have HLV := Lib.hid (hlV w.heap.size w (by omega) HL.out); clear hXb hgV hlV) | fail)
  exact bodyPost_ret (results_box _ Try.results11 rfl HX.out _ Try.underlying33 sizeGate) rfl ⟨rfl, HLV.out⟩

set_option maxRecDepth 100000 in
set_option maxHeartbeats 4000000 in
theorem implNew_yes (w : World) (n : Nat) (qu wi ti qa bu le pb pc pj pt : Int) (hn : n ≤ 1000) (hyes : cfgB (n : Int) qu wi ti qa bu le pb pc pj pt = true) :
    Calls Try.prog 11 #[.agg #[.int .i64 n, .int .i64 qu, .int .i64 wi, .int .i64 ti, .int .i64 qa, .int .i64 bu, .int .i64 le, .int .i64 pb, .int .i64 pc, .int .i64 pj, .int .i64 pt]] w fun e w' => NewEnd w w' n qu wi ti qa bu le pb pc pj pt e := by
  obtain ⟨W0, hW0⟩ : ∃ W, W = (w.alloc (.cells #[.int .i64 n, .int .i64 qu, .int .i64 wi, .int .i64 ti, .int .i64 qa, .int .i64 bu, .int .i64 le, .int .i64 pb, .int .i64 pc, .int .i64 pj, .int .i64 pt] 27)).alloc (.cells #[.int .i64 0, .int .i64 0, .int .i64 0, .int .i64 0, .int .i64 0, .int .i64 0, .int .i64 0, .int .i64 0, .int .i64 0, .int .i64 0, .int .i64 0, .int .i64 0, .int .i64 0, .slice none 0 0, .slice none 0 0, .int .i64 0, .slice none 0 0, .slice none 0 0, .int .i64 0, .int .i64 0, .int .i64 0] 33) := ⟨_, rfl⟩
  have hb2 := bOne (w.alloc (.cells #[.int .i64 n, .int .i64 qu, .int .i64 wi, .int .i64 ti, .int .i64 qa, .int .i64 bu, .int .i64 le, .int .i64 pb, .int .i64 pc, .int .i64 pj, .int .i64 pt] 27)) (.cells #[.int .i64 0, .int .i64 0, .int .i64 0, .int .i64 0, .int .i64 0, .int .i64 0, .int .i64 0, .int .i64 0, .int .i64 0, .int .i64 0, .int .i64 0, .int .i64 0, .int .i64 0, .slice none 0 0, .slice none 0 0, .int .i64 0, .slice none 0 0, .slice none 0 0, .int .i64 0, .int .i64 0, .int .i64 0] 33)
  have HC : Hid (Box W0 w.heap.size 27 [.int .i64 n, .int .i64 qu, .int .i64 wi, .int .i64 ti, .int .i64 qa, .int .i64 bu, .int .i64 le, .int .i64 pb, .int .i64 pc, .int .i64 pj, .int .i64 pt]) := Lib.hid (by rw [hW0]; exact (Box.new w [.int .i64 n, .int .i64 qu, .int .i64 wi, .int .i64 ti, .int .i64 qa, .int .i64 bu, .int .i64 le, .int .i64 pb, .int .i64 pc, .int .i64 pj, .int .i64 pt] 27).below hb2)
  have HR : Hid (Box W0 (w.heap.size + 1) 33 [.int .i64 0, .int .i64 0, .int .i64 0, .int .i64 0, .int .i64 0, .int .i64 0, .int .i64 0, .int .i64 0, .int .i64 0, .int .i64 0, .int .i64 0, .int .i64 0, .int .i64 0, .slice none 0 0, .slice none 0 0, .int .i64 0, .slice none 0 0, .slice none 0 0, .int .i64 0, .int .i64 0, .int .i64 0]) := Lib.hid (by
    rw [hW0]
    have := Box.new (w.alloc (.cells #[.int .i64 n, .int .i64 qu, .int .i64 wi, .int .i64 ti, .int .i64 qa, .int .i64 bu, .int .i64 le, .int .i64 pb, .int .i64 pc, .int .i64 pj, .int .i64 pt] 27)) [.int .i64 0, .int .i64 0, .int .i64 0, .int .i64 0, .int .i64 0, .int .i64 0, .int .i64 0, .int .i64 0, .int .i64 0, .int .i64 0, .int .i64 0, .int .i64 0, .int .i64 0, .slice none 0 0, .slice none 0 0, .int .i64 0, .slice none 0 0, .slice none 0 0, .int .i64 0, .int .i64 0, .int .i64 0] 33
    simpa using this)
  have HL : Hid (Below w.heap.size w W0) := Lib.hid (by rw [hW0]; exact (bOne w (.cells #[.int .i64 n, .int .i64 qu, .int .i64 wi, .int .i64 ti, .int .i64 qa, .int .i64 bu, .int .i64 le, .int .i64 pb, .int .i64 pc, .int .i64 pj, .int .i64 pt] 27)).trans (hb2.mono (by simp)))
  have HWE := Lib.hid hW0
  clear hW0 hb2
  go_enter Try.func11, Try.ntmps11
  go_upto_region 1 with fail
  rw [← HWE.out]
  clear HWE
  go_upto_region 3 with (first | (refine wpList_load_box rfl _ 27 rfl rfl HC.out _ Try.underlying27 sizeCfg ?_) | fail)
  refine (implCfg_any (n : Int) qu wi ti qa bu le pb pc pj pt _).mono ?_
  rintro e w1 ⟨rfl, hb⟩
  replace HC := Lib.hid (HC.out.below hb)
  replace HR := Lib.hid (HR.out.below hb)
  replace HL := Lib.hid (low_after HL.out hb)
  clear hb
  rw [hyes]
  go_upto_region 3 with fail
  have HQ := Lib.hid (show Below w1.heap.size w1 w1.drew from below_drew' (Below.refl _ _))
  replace HR := Lib.hid (HR.out.below HQ.out)
  replace HL := Lib.hid (low_after HL.out HQ.out)
  refine wp_region_held_drew (S := fun w' => Box w' w.heap.size 27 [.int .i64 n, .int .i64 qu, .int .i64 wi, .int .i64 ti, .int .i64 qa, .int .i64 bu, .int .i64 le, .int .i64 pb, .int .i64 pc, .int .i64 pj, .int .i64 pt]) (by kernel_rfl) (HC.out.below HQ.out) (fun hHeld => ?_)
  obtain ⟨wd, hwd⟩ : ∃ x, x = w1.drew := ⟨_, rfl⟩
  rw [← hwd] at HR HL hHeld ⊢
  clear hwd HQ HC
  refine wpAnyH_take (i := 0) (oi := { dst := some _, op := _, type := _, pos := _, after := _, guard := _ }) (v := ?_) rfl (by kernel_rfl) (by kernel_rfl) (by kernel_rfl) (fun _ _ _ h => h) ?_ (by with_reducible assumption) ?_
  rotate_left 1
  focus (refine Or.inl ⟨by rfl, ?_⟩; intro wq hSw; refine exec_load_box ?_ 27 ?_ ?_ hSw _ Try.underlying27 sizeCfg; rotate_left 1; rfl; rfl)
  try simp only [Act.put, List.setIfInBounds_toArray, List.set_cons_zero, List.set_cons_succ]
  refine wpAnyH_take (i := 1) (oi := { dst := some _, op := _, type := _, pos := _, after := _, guard := _ }) (v := ?_) rfl (by kernel_rfl) (by kernel_rfl) (by kernel_rfl) (fun _ _ _ h => h) ?_ (by with_reducible assumption) ?_
  rotate_left 1
  focus (refine Or.inl ⟨by rfl, ?_⟩; intro wq hSw; go_simp; try with_reducible rfl)
  try simp only [Act.put, List.setIfInBounds_toArray, List.set_cons_zero, List.set_cons_succ]
  refine wpAnyH_take (i := 2) (oi := { dst := some _, op := _, type := _, pos := _, after := _, guard := _ }) (v := ?_) rfl (by kernel_rfl) (by kernel_rfl) (by kernel_rfl) (fun _ _ _ h => h) ?_ (by with_reducible assumption) ?_
  rotate_left 1
  focus (refine Or.inl ⟨by rfl, ?_⟩; intro wq hSw; have q0 := hSw.cell 0 _ rfl; go_simp; try with_reducible rfl)
  try simp only [Act.put, List.setIfInBounds_toArray, List.set_cons_zero, List.set_cons_succ]
  refine wpAnyH_take (i := 4) (oi := { dst := some _, op := _, type := _, pos := _, after := _, guard := _ }) (v := ?_) rfl (by kernel_rfl) (by kernel_rfl) (by kernel_rfl) (fun _ _ _ h => h) ?_ (by with_reducible assumption) ?_
  rotate_left 1
  focus (refine Or.inl ⟨by rfl, ?_⟩; intro wq hSw; go_simp; try with_reducible rfl)
  try simp only [Act.put, List.setIfInBounds_toArray, List.set_cons_zero, List.set_cons_succ]
  refine wpAnyH_take (i := 5) (oi := { dst := some _, op := _, type := _, pos := _, after := _, guard := _ }) (v := ?_) rfl (by kernel_rfl) (by kernel_rfl) (by kernel_rfl) (fun _ _ _ h => h) ?_ (by with_reducible assumption) ?_
  rotate_left 1
  focus (refine Or.inl ⟨by rfl, ?_⟩; intro wq hSw; have q0 := hSw.cell 0 _ rfl; go_simp; try with_reducible rfl)
  try simp only [Act.put, List.setIfInBounds_toArray, List.set_cons_zero, List.set_cons_succ]
  refine wpAnyH_ready (rs := [3, 6]) (by kernel_rfl) (by simp) ?_
  refine AllReadyH.cons rfl (fun KA hKA => ?_) ?_
  · refine step_make rfl _ _ _ rfl _ _ rfl rfl (make_links _ n hn) ?_
    rintro vKA wKA ⟨rfl, hown, hb⟩
    have HK := Lib.hid hown
    have HBKA := Lib.hid (hHeld.below hb)
    have HSK := Lib.hid HR.out.lt
    replace HR := Lib.hid (HR.out.below hb)
    replace HL := Lib.hid (low_after HL.out hb)
    clear hb hown hHeld
    go_simp
    refine hKA.out _ _ (HBKA.out) (fun hHeld => ?_)
    clear hKA
    try simp only [Act.put, List.setIfInBounds_toArray, List.set_cons_zero, List.set_cons_succ]
    refine wpAnyH_ready (rs := [6]) (by kernel_rfl) (by simp) ?_
    refine AllReadyH.cons rfl (fun KB hKB => ?_) AllReadyH.nil
    refine step_make rfl _ _ _ rfl _ _ rfl rfl (make_ints _ n hn) ?_
    rintro vKB wKB ⟨rfl, hown, hb⟩
    have HF := Lib.hid hown
    have HBKB := Lib.hid (hHeld.below hb)
    have HSF := Lib.hid HR.out.lt
    replace HR := Lib.hid (HR.out.below hb)
    replace HK := Lib.hid (HK.out.below hb)
    replace HL := Lib.hid (low_after HL.out hb)
    clear hb hown hHeld
    go_simp
    refine hKB.out _ _ (HBKB.out) (fun hHeld => ?_)
    clear hKB
    try simp only [Act.put, List.setIfInBounds_toArray, List.set_cons_zero, List.set_cons_succ]
    refine wpAnyH_take (i := 7) (oi := { dst := some _, op := _, type := _, pos := _, after := _, guard := _ }) (v := ?_) rfl (by kernel_rfl) (by kernel_rfl) (by kernel_rfl) (fun _ _ _ h => h) ?_ (by with_reducible assumption) ?_
    rotate_left 1
    focus (refine Or.inl ⟨by rfl, ?_⟩; intro wq hSw; go_simp; try with_reducible rfl)
    try simp only [Act.put, List.setIfInBounds_toArray, List.set_cons_zero, List.set_cons_succ]
    refine wpAnyH_ready (rs := [8]) (by kernel_rfl) (by simp) ?_
    refine AllReadyH.cons rfl (fun KS hKS => ?_) AllReadyH.nil
    refine step_store_box rfl _ _ 33 rfl rfl [.int .i64 n, .int .i64 qu, .int .i64 wi, .int .i64 ti, .int .i64 qa, .int .i64 bu, .int .i64 le, .int .i64 pb, .int .i64 pc, .int .i64 pj, .int .i64 pt, .int .i64 0, .int .i64 0, .slice none 0 0, .slice (some ⟨wd.heap.size, 0, none⟩) n n, .int .i64 0, .slice (some ⟨wKA.heap.size, 0, none⟩) n n, .slice none 0 0, .int .i64 0, .int .i64 0, .int .i64 0] rfl HR.out sizeGate rfl rfl ?_
    rintro V hXb hgV hlV
    have HX := Lib.hid hXb
    have HGV := Lib.hid hgV
    have HLV := Lib.hid (hlV w.heap.size w (by omega) HL.out)
    have HBV := Lib.hid (hHeld.grown hgV (by simp))
    clear hXb hgV hlV hHeld
    go_simp
    refine hKS.out _ _ (HBV.out) (fun hHeld => ?_)
    clear hKS
    try simp only [Act.put, List.setIfInBounds_toArray, List.set_cons_zero, List.set_cons_succ]
    refine wpAnyH_done (by kernel_rfl) ?_ _
    go_wp2_with fail
    refine bodyPost_ret (results_box _ Try.results11 rfl HX.out _ Try.underlying33 sizeGate) rfl ⟨⟨_, _, rfl, ?_, ?_⟩, HLV.out⟩
    · exact (HK.out.base (by have := HSK.out; omega)).grown HGV.out (.inr (by simp [Value.ownBlock]; have := HSK.out; omega))
    · exact (HF.out.base (by have := HSF.out; omega)).grown HGV.out (.inr (by simp [Value.ownBlock]; have := HSF.out; omega))
  · refine AllReadyH.cons rfl (fun KB hKB => ?_) AllReadyH.nil
    refine step_make rfl _ _ _ rfl _ _ rfl rfl (make_ints _ n hn) ?_
    rintro vKB wKB ⟨rfl, hown, hb⟩
    have HF := Lib.hid hown
    have HBKB := Lib.hid (hHeld.below hb)
    have HSF := Lib.hid HR.out.lt
    replace HR := Lib.hid (HR.out.below hb)
    replace HL := Lib.hid (low_after HL.out hb)
    clear hb hown hHeld
    go_simp
    refine hKB.out _ _ (HBKB.out) (fun hHeld => ?_)
    clear hKB
    try simp only [Act.put, List.setIfInBounds_toArray, List.set_cons_zero, List.set_cons_succ]
    refine wpAnyH_ready (rs := [3]) (by kernel_rfl) (by simp) ?_
    refine AllReadyH.cons rfl (fun KA hKA => ?_) AllReadyH.nil
    refine step_make rfl _ _ _ rfl _ _ rfl rfl (make_links _ n hn) ?_
    rintro vKA wKA ⟨rfl, hown, hb⟩
    have HK := Lib.hid hown
    have HBKA := Lib.hid (hHeld.below hb)
    have HSK := Lib.hid HR.out.lt
    replace HR := Lib.hid (HR.out.below hb)
    replace HF := Lib.hid (HF.out.below hb)
    replace HL := Lib.hid (low_after HL.out hb)
    clear hb hown hHeld
    go_simp
    refine hKA.out _ _ (HBKA.out) (fun hHeld => ?_)
    clear hKA
    try simp only [Act.put, List.setIfInBounds_toArray, List.set_cons_zero, List.set_cons_succ]
    refine wpAnyH_take (i := 7) (oi := { dst := some _, op := _, type := _, pos := _, after := _, guard := _ }) (v := ?_) rfl (by kernel_rfl) (by kernel_rfl) (by kernel_rfl) (fun _ _ _ h => h) ?_ (by with_reducible assumption) ?_
    rotate_left 1
    focus (refine Or.inl ⟨by rfl, ?_⟩; intro wq hSw; go_simp; try with_reducible rfl)
    try simp only [Act.put, List.setIfInBounds_toArray, List.set_cons_zero, List.set_cons_succ]
    refine wpAnyH_ready (rs := [8]) (by kernel_rfl) (by simp) ?_
    refine AllReadyH.cons rfl (fun KS hKS => ?_) AllReadyH.nil
    refine step_store_box rfl _ _ 33 rfl rfl [.int .i64 n, .int .i64 qu, .int .i64 wi, .int .i64 ti, .int .i64 qa, .int .i64 bu, .int .i64 le, .int .i64 pb, .int .i64 pc, .int .i64 pj, .int .i64 pt, .int .i64 0, .int .i64 0, .slice none 0 0, .slice (some ⟨wKB.heap.size, 0, none⟩) n n, .int .i64 0, .slice (some ⟨wd.heap.size, 0, none⟩) n n, .slice none 0 0, .int .i64 0, .int .i64 0, .int .i64 0] rfl HR.out sizeGate rfl rfl ?_
    rintro V hXb hgV hlV
    have HX := Lib.hid hXb
    have HGV := Lib.hid hgV
    have HLV := Lib.hid (hlV w.heap.size w (by omega) HL.out)
    have HBV := Lib.hid (hHeld.grown hgV (by simp))
    clear hXb hgV hlV hHeld
    go_simp
    refine hKS.out _ _ (HBV.out) (fun hHeld => ?_)
    clear hKS
    try simp only [Act.put, List.setIfInBounds_toArray, List.set_cons_zero, List.set_cons_succ]
    refine wpAnyH_done (by kernel_rfl) ?_ _
    go_wp2_with fail
    refine bodyPost_ret (results_box _ Try.results11 rfl HX.out _ Try.underlying33 sizeGate) rfl ⟨⟨_, _, rfl, ?_, ?_⟩, HLV.out⟩
    · exact (HK.out.base (by have := HSK.out; omega)).grown HGV.out (.inr (by simp [Value.ownBlock]; have := HSK.out; omega))
    · exact (HF.out.base (by have := HSF.out; omega)).grown HGV.out (.inr (by simp [Value.ownBlock]; have := HSF.out; omega))

end Go.Proofs.Ytecfomaapomncaa.Gat
