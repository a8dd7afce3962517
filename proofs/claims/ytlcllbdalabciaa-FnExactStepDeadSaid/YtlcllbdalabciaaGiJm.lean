/-
  ticker.late, with its closure.
-/
import Derived.Test.YtlcllbdalabciaaMgn
import Derived.Test.YtlcllbdalabciaaGiHm
import Derived.Test.YtlcllbdalabciaaGcJm
import Derived.Test.YtlcllbdalabciaaMgm
namespace Go.Proofs.Ytlcllbdalabciaa.Gat
open Go.RowKit
open Lnk (bOne bAfter IOwn IIs YOwn YIs below_keep below_drew' bcell low_after low_alloc grown_of_below latL latI)
set_option linter.unusedVariables false
set_option linter.unusedSimpArgs false

theorem sizeLkB : (Try.prog.info? 56).map (·.size) = some 4 := by kernel_rfl

theorem row_ne {B : Nat} {w : World} {r : Rw} {k : Nat} (h : r.At B w) (hk : k < B) : r.v.ownBlock = none ∨ r.v.ownBlock ≠ some k := by
  cases hv : r.v.ownBlock with
  | none => exact .inl rfl
  | some q => exact .inr (fun e => by injection e; have := (h.lt q hv).1; omega)

set_option maxRecDepth 100000 in
set_option maxHeartbeats 4000000 in
theorem lateFn_any (w : World) (kx kb : Nat) (nw : Int) (up : Bool) (ep sq : Int) (fa0 : Option Addr) (fl fc0 : Nat) (y : List Lnk.Y) (hp : w.cell? ⟨kx, 0, none⟩ = some (.pointer (some ⟨kb, 0, none⟩))) (hn : w.cell? ⟨kb, 11, none⟩ = some (.int .i64 nw)) (h : YIs w.heap.size w fa0 fl y) (hl : y.length ≤ 1048576) :
    Calls Try.prog 101 #[.agg #[.bool up, .int .i64 ep, .int .i64 sq, .slice fa0 fl fc0], .pointer (some ⟨kx, 0, none⟩)] w fun e w' => Lnk.LandEnd w w' up ep sq (latL up ep sq y nw) (latI up ep sq y nw) e := by
  have hk1 := World.block_lt_of_cell? _ _ hp
  have hk2 := World.block_lt_of_cell? _ _ hn
  dsimp only at hk1 hk2
  obtain ⟨W0, hW0⟩ : ∃ W, W = (w.alloc (.cells #[.bool up, .int .i64 ep, .int .i64 sq, .slice fa0 fl fc0] 56)).alloc (.cells #[.bool false, .int .i64 0, .int .i64 0, .slice none 0 0] 56) := ⟨_, rfl⟩
  have hb1 := bOne w (.cells #[.bool up, .int .i64 ep, .int .i64 sq, .slice fa0 fl fc0] 56)
  have hb2 := bOne (w.alloc (.cells #[.bool up, .int .i64 ep, .int .i64 sq, .slice fa0 fl fc0] 56)) (.cells #[.bool false, .int .i64 0, .int .i64 0, .slice none 0 0] 56)
  have hbb : Below w.heap.size w W0 := by rw [hW0]; exact hb1.trans (hb2.mono (by simp))
  have HA := Lib.hid (show Box W0 w.heap.size 56 [.bool up, .int .i64 ep, .int .i64 sq, .slice fa0 fl fc0] by rw [hW0]; exact (Box.new w [.bool up, .int .i64 ep, .int .i64 sq, .slice fa0 fl fc0] 56).below hb2)
  have HR := Lib.hid (show Box W0 (w.heap.size + 1) 56 [.bool false, .int .i64 0, .int .i64 0, .slice none 0 0] by
    rw [hW0]
    have := Box.new (w.alloc (.cells #[.bool up, .int .i64 ep, .int .i64 sq, .slice fa0 fl fc0] 56)) [.bool false, .int .i64 0, .int .i64 0, .slice none 0 0] 56
    simpa using this)
  have HL := Lib.hid hbb
  have HP := Lib.hid ((hbb.cell (p := ⟨kx, 0, none⟩) hk1).trans hp)
  have HN := Lib.hid ((hbb.cell (p := ⟨kb, 11, none⟩) hk2).trans hn)
  have HY := Lib.hid (h.here hbb)
  have HSZ := Lib.hid (show w.heap.size + 2 ≤ W0.heap.size by rw [hW0]; simp)
  have HWE := Lib.hid hW0
  clear hp hn h hW0 hb1 hb2 hbb
  go_enter Try.func101, Try.ntmps101
  go_upto_region 1 with fail
  rw [← HWE.out]
  clear HWE
  have hb := below_drew' (Below.refl W0.heap.size W0)
  replace HA := Lib.hid (HA.out.below hb)
  replace HR := Lib.hid (HR.out.below hb)
  replace HL := Lib.hid (low_after HL.out hb)
  replace HP := Lib.hid ((hb.cell (p := ⟨kx, 0, none⟩) (World.block_lt_of_cell? _ _ HP.out)).trans HP.out)
  replace HN := Lib.hid ((hb.cell (p := ⟨kb, 11, none⟩) (World.block_lt_of_cell? _ _ HN.out)).trans HN.out)
  replace HY := Lib.hid (HY.out.here hb)
  replace HSZ := Lib.hid (Nat.le_trans HSZ.out hb.size)
  clear hb
  refine wp_region_held_drew (S := fun w' => Box w' w.heap.size 56 [.bool up, .int .i64 ep, .int .i64 sq, .slice fa0 fl fc0] ∧ w'.cell? ⟨kx, 0, none⟩ = some (.pointer (some ⟨kb, 0, none⟩)) ∧ w'.cell? ⟨kb, 11, none⟩ = some (.int .i64 nw)) (by kernel_rfl) ⟨HA.out, HP.out, HN.out⟩ (fun hHeld => ?_)
  obtain ⟨wd, hwd⟩ : ∃ x, x = W0.drew := ⟨_, rfl⟩
  rw [← hwd] at HA HR HL HP HN HY HSZ hHeld ⊢
  clear hwd
  refine wpAnyH_take (i := 0) (oi := { dst := some _, op := _, type := _, pos := _, after := _, guard := _ }) (v := ?_) rfl (by kernel_rfl) (by kernel_rfl) (by kernel_rfl) (fun _ _ _ h => h) ?_ (by with_reducible assumption) ?_
  rotate_left 1
  focus (refine Or.inl ⟨by rfl, ?_⟩; intro wq hSw; refine exec_load_box ?_ 56 ?_ ?_ hSw.1 _ Try.underlying56 sizeLkB; rotate_left 1; rfl; rfl)
  try simp only [Act.put, List.setIfInBounds_toArray, List.set_cons_zero, List.set_cons_succ]
  refine wpAnyH_take (i := 1) (oi := { dst := some _, op := _, type := _, pos := _, after := _, guard := _ }) (v := ?_) rfl (by kernel_rfl) (by kernel_rfl) (by kernel_rfl) (fun _ _ _ h => h) ?_ (by with_reducible assumption) ?_
  rotate_left 1
  focus (refine Or.inl ⟨by rfl, ?_⟩; intro wq hSw; have q0 := hSw.2.1; go_simp; try with_reducible rfl)
  try simp only [Act.put, List.setIfInBounds_toArray, List.set_cons_zero, List.set_cons_succ]
  refine wpAnyH_take (i := 2) (oi := { dst := some _, op := _, type := _, pos := _, after := _, guard := _ }) (v := ?_) rfl (by kernel_rfl) (by kernel_rfl) (by kernel_rfl) (fun _ _ _ h => h) ?_ (by with_reducible assumption) ?_
  rotate_left 1
  focus (refine Or.inl ⟨by rfl, ?_⟩; intro wq hSw; go_simp; try with_reducible rfl)
  try simp only [Act.put, List.setIfInBounds_toArray, List.set_cons_zero, List.set_cons_succ]
  refine wpAnyH_take (i := 3) (oi := { dst := some _, op := _, type := _, pos := _, after := _, guard := _ }) (v := ?_) rfl (by kernel_rfl) (by kernel_rfl) (by kernel_rfl) (fun _ _ _ h => h) ?_ (by with_reducible assumption) ?_
  rotate_left 1
  focus (refine Or.inl ⟨by rfl, ?_⟩; intro wq hSw; go_simp; try with_reducible rfl)
  try simp only [Act.put, List.setIfInBounds_toArray, List.set_cons_zero, List.set_cons_succ]
  refine wpAnyH_take (i := 4) (oi := { dst := some _, op := _, type := _, pos := _, after := _, guard := _ }) (v := ?_) rfl (by kernel_rfl) (by kernel_rfl) (by kernel_rfl) (fun _ _ _ h => h) ?_ (by with_reducible assumption) ?_
  rotate_left 1
  focus (refine Or.inl ⟨by rfl, ?_⟩; intro wq hSw; go_simp; try with_reducible rfl)
  try simp only [Act.put, List.setIfInBounds_toArray, List.set_cons_zero, List.set_cons_succ]
  refine wpAnyH_take (i := 5) (oi := { dst := some _, op := _, type := _, pos := _, after := _, guard := _ }) (v := ?_) rfl (by kernel_rfl) (by kernel_rfl) (by kernel_rfl) (fun _ _ _ h => h) ?_ (by with_reducible assumption) ?_
  rotate_left 1
  focus (refine Or.inl ⟨by rfl, ?_⟩; intro wq hSw; go_simp; try with_reducible rfl)
  try simp only [Act.put, List.setIfInBounds_toArray, List.set_cons_zero, List.set_cons_succ]
  refine wpAnyH_take (i := 6) (oi := { dst := some _, op := _, type := _, pos := _, after := _, guard := _ }) (v := ?_) rfl (by kernel_rfl) (by kernel_rfl) (by kernel_rfl) (fun _ _ _ h => h) ?_ (by with_reducible assumption) ?_
  rotate_left 1
  focus (refine Or.inl ⟨by rfl, ?_⟩; intro wq hSw; have q1 := hSw.2.2; go_simp; try with_reducible rfl)
  try simp only [Act.put, List.setIfInBounds_toArray, List.set_cons_zero, List.set_cons_succ]
  refine wpAnyH_ready (rs := [7]) (by kernel_rfl) (by simp) ?_
  refine AllReadyH.cons rfl (fun KC hKC => ?_) AllReadyH.nil
  go_simp
  refine (Lnk.late_any _ fa0 fl fc0 up ep sq y nw HY.out (by have := HY.out.hlen; omega)).mono ?_
  rintro e w3 ⟨⟨a2, cap2, a3, cap3, rfl, hoy, hoi⟩, hb⟩
  obtain ⟨y2, hy2⟩ : ∃ l, l = latL up ep sq y nw := ⟨_, rfl⟩
  obtain ⟨i2, hi2⟩ : ∃ l, l = latI up ep sq y nw := ⟨_, rfl⟩
  rw [← hy2] at hoy ⊢
  rw [← hi2] at hoi ⊢
  obtain ⟨n2, hn2⟩ : ∃ n, n = y2.length := ⟨_, rfl⟩
  obtain ⟨m2, hm2⟩ : ∃ n, n = i2.length := ⟨_, rfl⟩
  rw [← hn2] at hoy ⊢
  rw [← hm2] at hoi ⊢
  have HOY := Lib.hid (hoy.base (B' := w.heap.size + 2) HSZ.out)
  have HOI := Lib.hid (hoi.base (B' := w.heap.size + 2) HSZ.out)
  replace HA := Lib.hid (HA.out.below hb)
  replace HR := Lib.hid (HR.out.below hb)
  replace HL := Lib.hid (low_after HL.out hb)
  replace HP := Lib.hid ((hb.cell (p := ⟨kx, 0, none⟩) (World.block_lt_of_cell? _ _ HP.out)).trans HP.out)
  replace HN := Lib.hid ((hb.cell (p := ⟨kb, 11, none⟩) (World.block_lt_of_cell? _ _ HN.out)).trans HN.out)
  have HY2 := Lib.hid hy2
  have HI2 := Lib.hid hi2
  have HN2 := Lib.hid hn2
  have HM2 := Lib.hid hm2
  clear hb hoy hoi hHeld HY hy2 hi2 hn2 hm2
  dsimp only
  refine hKC.out _ _ (⟨HA.out, HP.out, HN.out⟩) (fun hHeld => ?_)
  clear hKC
  try simp only [Act.put, List.setIfInBounds_toArray, List.set_cons_zero, List.set_cons_succ]
  refine wpAnyH_take (i := 8) (oi := { dst := some _, op := _, type := _, pos := _, after := _, guard := _ }) (v := ?_) rfl (by kernel_rfl) (by kernel_rfl) (by kernel_rfl) (fun _ _ _ h => h) ?_ (by with_reducible assumption) ?_
  rotate_left 1
  focus (refine Or.inl ⟨by rfl, ?_⟩; intro wq hSw; go_simp; try with_reducible rfl)
  try simp only [Act.put, List.setIfInBounds_toArray, List.set_cons_zero, List.set_cons_succ]
  refine wpAnyH_take (i := 9) (oi := { dst := some _, op := _, type := _, pos := _, after := _, guard := _ }) (v := ?_) rfl (by kernel_rfl) (by kernel_rfl) (by kernel_rfl) (fun _ _ _ h => h) ?_ (by with_reducible assumption) ?_
  rotate_left 1
  focus (refine Or.inl ⟨by rfl, ?_⟩; intro wq hSw; go_simp; try with_reducible rfl)
  try simp only [Act.put, List.setIfInBounds_toArray, List.set_cons_zero, List.set_cons_succ]
  have r0 := HR.out.cell 0 _ rfl
  have r1 := HR.out.cell 1 _ rfl
  have r2 := HR.out.cell 2 _ rfl
  have r3 := HR.out.cell 3 _ rfl
  have g0 := HR.out.frozen 0
  have g1 := HR.out.frozen 1
  have g2 := HR.out.frozen 2
  have g3 := HR.out.frozen 3
  refine wpAnyH_ready (rs := [10]) (by kernel_rfl) (by simp) ?_
  refine AllReadyH.cons rfl (fun KS hKS => ?_) AllReadyH.nil
  go_simp
  obtain ⟨w4, hw4⟩ : ∃ V, V = (((w3.setCell ⟨w.heap.size + 1, 0, none⟩ (.bool up)).setCell ⟨w.heap.size + 1, 1, none⟩ (.int .i64 ep)).setCell ⟨w.heap.size + 1, 2, none⟩ (.int .i64 sq)).setCell ⟨w.heap.size + 1, 3, none⟩ (.slice a2 n2 cap2) := ⟨_, rfl⟩
  rw [← hw4]
  have hx4 : Box w4 (w.heap.size + 1) 56 [.bool up, .int .i64 ep, .int .i64 sq, .slice a2 n2 cap2] := by rw [hw4]; exact Box.store [.bool up, .int .i64 ep, .int .i64 sq, .slice a2 n2 cap2] 0 _ _ HR.out
  have hg4 : w3.grownBy w4 (some (w.heap.size + 1)) := by rw [hw4]; exact store_grown [.bool up, .int .i64 ep, .int .i64 sq, .slice a2 n2 cap2] 0 _
  replace HA := Lib.hid (HA.out.grown hg4 (by simp))
  replace HP := Lib.hid (hg4.cell (a := ⟨kx, 0, none⟩) HP.out (fun e => by have e' : kx = w.heap.size + 1 := (by injection e); omega))
  replace HN := Lib.hid (hg4.cell (a := ⟨kb, 11, none⟩) HN.out (fun e => by have e' : kb = w.heap.size + 1 := (by injection e); omega))
  replace HL := Lib.hid (HL.out.grown hg4 HL.out.size (fun q e => by cases e; omega))
  replace HOY := Lib.hid (HOY.out.grown hg4 (row_ne (r := flR (.slice a2 n2 cap2) y2) (by have h1 := HOY.out; exact h1) (by omega)))
  replace HOI := Lib.hid (Lnk.IOwn.grown HOI.out hg4 (row_ne (r := inR (.slice a3 m2 cap3) i2) (by have h1 := HOI.out; exact h1) (by omega)))
  replace HR := Lib.hid hx4
  clear hx4 hg4 hw4 r0 r1 r2 r3 g0 g1 g2 g3 hHeld
  refine hKS.out _ _ (⟨HA.out, HP.out, HN.out⟩) (fun hHeld => ?_)
  clear hKS
  try simp only [Act.put, List.setIfInBounds_toArray, List.set_cons_zero, List.set_cons_succ]
  refine wpAnyH_take (i := 11) (oi := { dst := some _, op := _, type := _, pos := _, after := _, guard := _ }) (v := ?_) rfl (by kernel_rfl) (by kernel_rfl) (by kernel_rfl) (fun _ _ _ h => h) ?_ (by with_reducible assumption) ?_
  rotate_left 1
  focus (refine Or.inl ⟨by rfl, ?_⟩; intro wq hSw; go_simp; try with_reducible rfl)
  try simp only [Act.put, List.setIfInBounds_toArray, List.set_cons_zero, List.set_cons_succ]
  refine wpAnyH_done (by kernel_rfl) ?_ _
  clear hHeld
  go_wp2_with fail
  exact bodyPost_ret (v := .tuple #[.agg #[.bool up, .int .i64 ep, .int .i64 sq, .slice a2 n2 cap2], .slice a3 m2 cap3]) (results_box2 _ Try.results101 rfl rfl HR.out _ Try.underlying56 sizeLkB) rfl ⟨⟨a2, cap2, a3, cap3, by rw [← HY2.out, ← HI2.out, ← HN2.out, ← HM2.out], by rw [← HY2.out, ← HN2.out]; exact HOY.out.base (by omega), by rw [← HI2.out, ← HM2.out]; exact HOI.out.base (by omega)⟩, HL.out⟩

end Go.Proofs.Ytlcllbdalabciaa.Gat
