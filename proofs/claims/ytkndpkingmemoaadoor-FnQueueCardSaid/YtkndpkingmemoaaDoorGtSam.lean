/-
  Gates told the same by the laws' own sameGate.
-/
import Derived.Test.YtkndpkingmemoaaDoorMgk
import Derived.Test.YtkndpkingmemoaaDoorMgc
namespace Go.Proofs.YtkndpkingmemoaaDoor.Gat
open Go.RowKit
open Lnk (bOne bAfter IOwn IIs below_keep below_drew' bcell low_after low_alloc)
set_option linter.unusedVariables false

set_option maxRecDepth 100000 in
set_option maxHeartbeats 4000000 in
theorem sameEvents_yes (w : World) (B : Nat) (a1 a2 : Option Addr) (len c1 c2 : Nat) (l : List Ev) (h1 : EIs B w a1 len l) (h2 : EIs B w a2 len l) (hB : B ≤ w.heap.size) :
    Calls Tryd.prog 26 #[.slice a1 len c1, .slice a2 len c2] w fun e w' => e = .returned (.bool true) ∧ Below w.heap.size w w' := by
  have hl := h1.row.hlen
  have hle := h1.row.le
  unfold maxLen at hle
  have H1 := Lib.hid h1
  have H2 := Lib.hid h2
  have HL := Lib.hid hl
  clear h1 h2 hl
  go_enter Tryd.func26, Tryd.ntmps26
  go_wp2_with fail
  go_loopw [5] (fun i wr => ∃ j : Nat, j ≤ len ∧ i = .int .i64 j ∧ Hid (Below w.heap.size w wr)) (fun i _ => len - (intOf i).toNat)
  case atStart => exact ⟨0, by omega, rfl, Lib.hid (Below.refl _ _)⟩
  case round =>
    obtain ⟨j, hj, rfl, HBL⟩ := hrel
    by_cases hlt : (j : Int) < (len : Int)
    · have hjl : j < l.length := by have := HL.out; omega
      have hbel := HBL.out
      have hsz := hbel.size
      obtain ⟨b1, o1, i, d, c, bd, at_, t, r, n, s, rfl, hb1, hlj, hbd, c0, c1', c2', c3, c4, c5, c6, c7, c8⟩ := (H1.out.below (hbel.mono hB)).at j hjl
      obtain ⟨b2, o2, i', d', c', bd', at_', t', r', n', s', rfl, hb2, hlj2, hbd2, d0, d1, d2, d3, d4, d5, d6, d7, d8⟩ := (H2.out.below (hbel.mono hB)).at j hjl
      rw [hlj] at hlj2
      simp only [Ev.mk.injEq] at hlj2
      obtain ⟨rfl, rfl, rfl, rfl, rfl, rfl, rfl, rfl, rfl⟩ := hlj2
      clear hlj hbd hbd2
      have hs1 : b1 < wr.heap.size := by omega
      have hs2 : b2 < wr.heap.size := by omega
      go_upto_region 6 with fail
      have HQ := Lib.hid (show Below wr.heap.size wr wr.drew from below_drew' (Below.refl _ _))
      have hS := And.intro hs1 hs2
      refine wp_region_held_drew (S := fun w' => w'.cell? ⟨b1, o1 + j * 9, none⟩ = some (.int .i64 i) ∧ w'.cell? ⟨b1, o1 + j * 9 + 1, none⟩ = some (.int .i64 d) ∧ w'.cell? ⟨b1, o1 + j * 9 + 2, none⟩ = some (.int .i64 c) ∧ w'.cell? ⟨b1, o1 + j * 9 + 3, none⟩ = some (.string bd) ∧ w'.cell? ⟨b1, o1 + j * 9 + 4, none⟩ = some (.int .i64 at_) ∧ w'.cell? ⟨b1, o1 + j * 9 + 5, none⟩ = some (.int .i64 t) ∧ w'.cell? ⟨b1, o1 + j * 9 + 6, none⟩ = some (.int .i64 r) ∧ w'.cell? ⟨b1, o1 + j * 9 + 7, none⟩ = some (.int .i64 n) ∧ w'.cell? ⟨b1, o1 + j * 9 + 8, none⟩ = some (.int .i64 s) ∧ w'.cell? ⟨b2, o2 + j * 9, none⟩ = some (.int .i64 i) ∧ w'.cell? ⟨b2, o2 + j * 9 + 1, none⟩ = some (.int .i64 d) ∧ w'.cell? ⟨b2, o2 + j * 9 + 2, none⟩ = some (.int .i64 c) ∧ w'.cell? ⟨b2, o2 + j * 9 + 3, none⟩ = some (.string bd) ∧ w'.cell? ⟨b2, o2 + j * 9 + 4, none⟩ = some (.int .i64 at_) ∧ w'.cell? ⟨b2, o2 + j * 9 + 5, none⟩ = some (.int .i64 t) ∧ w'.cell? ⟨b2, o2 + j * 9 + 6, none⟩ = some (.int .i64 r) ∧ w'.cell? ⟨b2, o2 + j * 9 + 7, none⟩ = some (.int .i64 n) ∧ w'.cell? ⟨b2, o2 + j * 9 + 8, none⟩ = some (.int .i64 s)) (by kernel_rfl) ⟨(HQ.out.cell (p := ⟨b1, o1 + j * 9, none⟩) (by omega)).trans c0, (HQ.out.cell (p := ⟨b1, o1 + j * 9 + 1, none⟩) (by omega)).trans c1', (HQ.out.cell (p := ⟨b1, o1 + j * 9 + 2, none⟩) (by omega)).trans c2', (HQ.out.cell (p := ⟨b1, o1 + j * 9 + 3, none⟩) (by omega)).trans c3, (HQ.out.cell (p := ⟨b1, o1 + j * 9 + 4, none⟩) (by omega)).trans c4, (HQ.out.cell (p := ⟨b1, o1 + j * 9 + 5, none⟩) (by omega)).trans c5, (HQ.out.cell (p := ⟨b1, o1 + j * 9 + 6, none⟩) (by omega)).trans c6, (HQ.out.cell (p := ⟨b1, o1 + j * 9 + 7, none⟩) (by omega)).trans c7, (HQ.out.cell (p := ⟨b1, o1 + j * 9 + 8, none⟩) (by omega)).trans c8, (HQ.out.cell (p := ⟨b2, o2 + j * 9, none⟩) (by omega)).trans d0, (HQ.out.cell (p := ⟨b2, o2 + j * 9 + 1, none⟩) (by omega)).trans d1, (HQ.out.cell (p := ⟨b2, o2 + j * 9 + 2, none⟩) (by omega)).trans d2, (HQ.out.cell (p := ⟨b2, o2 + j * 9 + 3, none⟩) (by omega)).trans d3, (HQ.out.cell (p := ⟨b2, o2 + j * 9 + 4, none⟩) (by omega)).trans d4, (HQ.out.cell (p := ⟨b2, o2 + j * 9 + 5, none⟩) (by omega)).trans d5, (HQ.out.cell (p := ⟨b2, o2 + j * 9 + 6, none⟩) (by omega)).trans d6, (HQ.out.cell (p := ⟨b2, o2 + j * 9 + 7, none⟩) (by omega)).trans d7, (HQ.out.cell (p := ⟨b2, o2 + j * 9 + 8, none⟩) (by omega)).trans d8⟩ (fun hHeld => ?_)
      clear c0 c1' c2' c3 c4 c5 c6 c7 c8 d0 d1 d2 d3 d4 d5 d6 d7 d8 hbel hsz
      refine wpAnyH_take (i := 0) (oi := { dst := some _, op := _, type := _, pos := _, after := _, guard := _ }) (v := ?_) rfl (by kernel_rfl) (by kernel_rfl) (by kernel_rfl) (fun _ _ _ h => h) ?_ (by with_reducible assumption) ?_
      rotate_left 1
      focus (refine Or.inl ⟨by rfl, ?_⟩; intro wq hSw; go_simp; try with_reducible rfl)
      try simp only [Act.put, List.setIfInBounds_toArray, List.set_cons_zero, List.set_cons_succ]
      refine wpAnyH_take (i := 1) (oi := { dst := some _, op := _, type := _, pos := _, after := _, guard := _ }) (v := ?_) rfl (by kernel_rfl) (by kernel_rfl) (by kernel_rfl) (fun _ _ _ h => h) ?_ (by with_reducible assumption) ?_
      rotate_left 1
      focus (refine Or.inl ⟨by rfl, ?_⟩; intro wq hSw; go_simp; try with_reducible rfl)
      try simp only [Act.put, List.setIfInBounds_toArray, List.set_cons_zero, List.set_cons_succ]
      refine wpAnyH_take (i := 2) (oi := { dst := some _, op := _, type := _, pos := _, after := _, guard := _ }) (v := ?_) rfl (by kernel_rfl) (by kernel_rfl) (by kernel_rfl) (fun _ _ _ h => h) ?_ (by with_reducible assumption) ?_
      rotate_left 1
      focus (refine Or.inl ⟨by rfl, ?_⟩; intro wq hSw; go_simp; try with_reducible rfl)
      try simp only [Act.put, List.setIfInBounds_toArray, List.set_cons_zero, List.set_cons_succ]
      refine wpAnyH_take (i := 3) (oi := { dst := some _, op := _, type := _, pos := _, after := _, guard := _ }) (v := ?_) rfl (by kernel_rfl) (by kernel_rfl) (by kernel_rfl) (fun _ _ _ h => h) ?_ (by with_reducible assumption) ?_
      rotate_left 1
      focus (refine Or.inl ⟨by rfl, ?_⟩; intro wq hSw; obtain ⟨p0, p1, p2, p3, p4, p5, p6, p7, p8, q0, q1, q2, q3, q4, q5, q6, q7, q8⟩ := hSw; go_simp; try with_reducible rfl)
      try simp only [Act.put, List.setIfInBounds_toArray, List.set_cons_zero, List.set_cons_succ]
      refine wpAnyH_take (i := 4) (oi := { dst := some _, op := _, type := _, pos := _, after := _, guard := _ }) (v := ?_) rfl (by kernel_rfl) (by kernel_rfl) (by kernel_rfl) (fun _ _ _ h => h) ?_ (by with_reducible assumption) ?_
      rotate_left 1
      focus (refine Or.inl ⟨by rfl, ?_⟩; intro wq hSw; go_simp; try with_reducible rfl)
      try simp only [Act.put, List.setIfInBounds_toArray, List.set_cons_zero, List.set_cons_succ]
      refine wpAnyH_take (i := 5) (oi := { dst := some _, op := _, type := _, pos := _, after := _, guard := _ }) (v := ?_) rfl (by kernel_rfl) (by kernel_rfl) (by kernel_rfl) (fun _ _ _ h => h) ?_ (by with_reducible assumption) ?_
      rotate_left 1
      focus (refine Or.inl ⟨by rfl, ?_⟩; intro wq hSw; go_simp; try with_reducible rfl)
      try simp only [Act.put, List.setIfInBounds_toArray, List.set_cons_zero, List.set_cons_succ]
      refine wpAnyH_take (i := 6) (oi := { dst := some _, op := _, type := _, pos := _, after := _, guard := _ }) (v := ?_) rfl (by kernel_rfl) (by kernel_rfl) (by kernel_rfl) (fun _ _ _ h => h) ?_ (by with_reducible assumption) ?_
      rotate_left 1
      focus (refine Or.inl ⟨by rfl, ?_⟩; intro wq hSw; go_simp; try with_reducible rfl)
      try simp only [Act.put, List.setIfInBounds_toArray, List.set_cons_zero, List.set_cons_succ]
      refine wpAnyH_take (i := 7) (oi := { dst := some _, op := _, type := _, pos := _, after := _, guard := _ }) (v := ?_) rfl (by kernel_rfl) (by kernel_rfl) (by kernel_rfl) (fun _ _ _ h => h) ?_ (by with_reducible assumption) ?_
      rotate_left 1
      focus (refine Or.inl ⟨by rfl, ?_⟩; intro wq hSw; obtain ⟨p0, p1, p2, p3, p4, p5, p6, p7, p8, q0, q1, q2, q3, q4, q5, q6, q7, q8⟩ := hSw; go_simp; try with_reducible rfl)
      try simp only [Act.put, List.setIfInBounds_toArray, List.set_cons_zero, List.set_cons_succ]
      refine wpAnyH_take (i := 8) (oi := { dst := some _, op := _, type := _, pos := _, after := _, guard := _ }) (v := ?_) rfl (by kernel_rfl) (by kernel_rfl) (by kernel_rfl) (fun _ _ _ h => h) ?_ (by with_reducible assumption) ?_
      rotate_left 1
      focus (refine Or.inl ⟨by rfl, ?_⟩; intro wq hSw; go_simp; try with_reducible rfl)
      try simp only [Act.put, List.setIfInBounds_toArray, List.set_cons_zero, List.set_cons_succ]
      refine wpAnyH_done (by kernel_rfl) ?_ _
      have HB5 := Lib.hid (low_after HBL.out HQ.out)
      clear hHeld HQ HBL
      go_wp2_with fail
      go_roundw
      case rel => exact ⟨j + 1, by omega, by go_num, by trivial⟩
      case measure => simp [intOf]; omega
    · go_wp2_with fail
      go_ret
      exact ⟨rfl, HBL.out⟩

set_option maxRecDepth 100000 in
set_option maxHeartbeats 8000000 in
theorem sameGate_same (w : World) (de qu wi ti qa bu le pb pc pj pt nw la : Int) (ea1 : Option Addr) (en ec1 : Nat) (ka1 : Option Addr) (kn kc1 : Nat) (tu : Int) (fa1 : Option Addr) (fn fc1 : Nat) (ra1 : Option Addr) (rn rc1 : Nat) (tk ac dr : Int) (ea2 : Option Addr) (ec2 : Nat) (ka2 : Option Addr) (kc2 : Nat) (fa2 : Option Addr) (fc2 : Nat) (ra2 : Option Addr) (rc2 : Nat) (E : List Ev) (K : List Lk) (F R : List Int) (h1 : GIs w.heap.size w ea1 en ka1 kn fa1 fn ra1 rn E K F R) (h2 : GIs w.heap.size w ea2 en ka2 kn fa2 fn ra2 rn E K F R) (hsm : Small en kn fn rn K) :
    Calls Tryd.prog 12 #[.agg #[.int .i64 de, .int .i64 qu, .int .i64 wi, .int .i64 ti, .int .i64 qa, .int .i64 bu, .int .i64 le, .int .i64 pb, .int .i64 pc, .int .i64 pj, .int .i64 pt, .int .i64 nw, .int .i64 la, .slice ea1 en ec1, .slice ka1 kn kc1, .int .i64 tu, .slice fa1 fn fc1, .slice ra1 rn rc1, .int .i64 tk, .int .i64 ac, .int .i64 dr], .agg #[.int .i64 de, .int .i64 qu, .int .i64 wi, .int .i64 ti, .int .i64 qa, .int .i64 bu, .int .i64 le, .int .i64 pb, .int .i64 pc, .int .i64 pj, .int .i64 pt, .int .i64 nw, .int .i64 la, .slice ea2 en ec2, .slice ka2 kn kc2, .int .i64 tu, .slice fa2 fn fc2, .slice ra2 rn rc2, .int .i64 tk, .int .i64 ac, .int .i64 dr]] w fun e w' => e = .returned (.bool true) ∧ Below w.heap.size w w' := by
  obtain ⟨W0, hW0⟩ : ∃ W, W = (w.alloc (.cells #[.int .i64 de, .int .i64 qu, .int .i64 wi, .int .i64 ti, .int .i64 qa, .int .i64 bu, .int .i64 le, .int .i64 pb, .int .i64 pc, .int .i64 pj, .int .i64 pt, .int .i64 nw, .int .i64 la, .slice ea1 en ec1, .slice ka1 kn kc1, .int .i64 tu, .slice fa1 fn fc1, .slice ra1 rn rc1, .int .i64 tk, .int .i64 ac, .int .i64 dr] 33)).alloc (.cells #[.int .i64 de, .int .i64 qu, .int .i64 wi, .int .i64 ti, .int .i64 qa, .int .i64 bu, .int .i64 le, .int .i64 pb, .int .i64 pc, .int .i64 pj, .int .i64 pt, .int .i64 nw, .int .i64 la, .slice ea2 en ec2, .slice ka2 kn kc2, .int .i64 tu, .slice fa2 fn fc2, .slice ra2 rn rc2, .int .i64 tk, .int .i64 ac, .int .i64 dr] 33) := ⟨_, rfl⟩
  have hb01 := bOne w (.cells #[.int .i64 de, .int .i64 qu, .int .i64 wi, .int .i64 ti, .int .i64 qa, .int .i64 bu, .int .i64 le, .int .i64 pb, .int .i64 pc, .int .i64 pj, .int .i64 pt, .int .i64 nw, .int .i64 la, .slice ea1 en ec1, .slice ka1 kn kc1, .int .i64 tu, .slice fa1 fn fc1, .slice ra1 rn rc1, .int .i64 tk, .int .i64 ac, .int .i64 dr] 33)
  have hb02 := bOne (w.alloc (.cells #[.int .i64 de, .int .i64 qu, .int .i64 wi, .int .i64 ti, .int .i64 qa, .int .i64 bu, .int .i64 le, .int .i64 pb, .int .i64 pc, .int .i64 pj, .int .i64 pt, .int .i64 nw, .int .i64 la, .slice ea1 en ec1, .slice ka1 kn kc1, .int .i64 tu, .slice fa1 fn fc1, .slice ra1 rn rc1, .int .i64 tk, .int .i64 ac, .int .i64 dr] 33)) (.cells #[.int .i64 de, .int .i64 qu, .int .i64 wi, .int .i64 ti, .int .i64 qa, .int .i64 bu, .int .i64 le, .int .i64 pb, .int .i64 pc, .int .i64 pj, .int .i64 pt, .int .i64 nw, .int .i64 la, .slice ea2 en ec2, .slice ka2 kn kc2, .int .i64 tu, .slice fa2 fn fc2, .slice ra2 rn rc2, .int .i64 tk, .int .i64 ac, .int .i64 dr] 33)
  have HA0 : Hid (Box W0 (w.heap.size) 33 [.int .i64 de, .int .i64 qu, .int .i64 wi, .int .i64 ti, .int .i64 qa, .int .i64 bu, .int .i64 le, .int .i64 pb, .int .i64 pc, .int .i64 pj, .int .i64 pt, .int .i64 nw, .int .i64 la, .slice ea1 en ec1, .slice ka1 kn kc1, .int .i64 tu, .slice fa1 fn fc1, .slice ra1 rn rc1, .int .i64 tk, .int .i64 ac, .int .i64 dr]) := Lib.hid (by
    rw [hW0]
    exact (Box.new w [.int .i64 de, .int .i64 qu, .int .i64 wi, .int .i64 ti, .int .i64 qa, .int .i64 bu, .int .i64 le, .int .i64 pb, .int .i64 pc, .int .i64 pj, .int .i64 pt, .int .i64 nw, .int .i64 la, .slice ea1 en ec1, .slice ka1 kn kc1, .int .i64 tu, .slice fa1 fn fc1, .slice ra1 rn rc1, .int .i64 tk, .int .i64 ac, .int .i64 dr] 33).below hb02)
  have HB0 : Hid (Box W0 (w.heap.size + 1) 33 [.int .i64 de, .int .i64 qu, .int .i64 wi, .int .i64 ti, .int .i64 qa, .int .i64 bu, .int .i64 le, .int .i64 pb, .int .i64 pc, .int .i64 pj, .int .i64 pt, .int .i64 nw, .int .i64 la, .slice ea2 en ec2, .slice ka2 kn kc2, .int .i64 tu, .slice fa2 fn fc2, .slice ra2 rn rc2, .int .i64 tk, .int .i64 ac, .int .i64 dr]) := Lib.hid (by
    rw [hW0]
    have := Box.new (w.alloc (.cells #[.int .i64 de, .int .i64 qu, .int .i64 wi, .int .i64 ti, .int .i64 qa, .int .i64 bu, .int .i64 le, .int .i64 pb, .int .i64 pc, .int .i64 pj, .int .i64 pt, .int .i64 nw, .int .i64 la, .slice ea1 en ec1, .slice ka1 kn kc1, .int .i64 tu, .slice fa1 fn fc1, .slice ra1 rn rc1, .int .i64 tk, .int .i64 ac, .int .i64 dr] 33)) [.int .i64 de, .int .i64 qu, .int .i64 wi, .int .i64 ti, .int .i64 qa, .int .i64 bu, .int .i64 le, .int .i64 pb, .int .i64 pc, .int .i64 pj, .int .i64 pt, .int .i64 nw, .int .i64 la, .slice ea2 en ec2, .slice ka2 kn kc2, .int .i64 tu, .slice fa2 fn fc2, .slice ra2 rn rc2, .int .i64 tk, .int .i64 ac, .int .i64 dr] 33
    simpa using this)
  have HL0 : Hid (Below w.heap.size w W0) := Lib.hid (by rw [hW0]; exact hb01.trans (hb02.mono (by simp)))
  have HWE := Lib.hid hW0
  have H1 := Lib.hid h1
  have H2 := Lib.hid h2
  have HSM := Lib.hid hsm
  have HKN := Lib.hid h1.lk.hlen
  clear hW0 hb01 hb02 h1 h2 hsm
  have c0 := HA0.out.cell 0 _ rfl
  have d0 := HB0.out.cell 0 _ rfl
  have c1 := HA0.out.cell 1 _ rfl
  have d1 := HB0.out.cell 1 _ rfl
  have c2 := HA0.out.cell 2 _ rfl
  have d2 := HB0.out.cell 2 _ rfl
  have c3 := HA0.out.cell 3 _ rfl
  have d3 := HB0.out.cell 3 _ rfl
  have c4 := HA0.out.cell 4 _ rfl
  have d4 := HB0.out.cell 4 _ rfl
  have c5 := HA0.out.cell 5 _ rfl
  have d5 := HB0.out.cell 5 _ rfl
  have c6 := HA0.out.cell 6 _ rfl
  have d6 := HB0.out.cell 6 _ rfl
  have c7 := HA0.out.cell 7 _ rfl
  have d7 := HB0.out.cell 7 _ rfl
  have c8 := HA0.out.cell 8 _ rfl
  have d8 := HB0.out.cell 8 _ rfl
  have c9 := HA0.out.cell 9 _ rfl
  have d9 := HB0.out.cell 9 _ rfl
  have c10 := HA0.out.cell 10 _ rfl
  have d10 := HB0.out.cell 10 _ rfl
  have c11 := HA0.out.cell 11 _ rfl
  have d11 := HB0.out.cell 11 _ rfl
  have c12 := HA0.out.cell 12 _ rfl
  have d12 := HB0.out.cell 12 _ rfl
  have c14 := HA0.out.cell 14 _ rfl
  have d14 := HB0.out.cell 14 _ rfl
  have c15 := HA0.out.cell 15 _ rfl
  have d15 := HB0.out.cell 15 _ rfl
  have c18 := HA0.out.cell 18 _ rfl
  have d18 := HB0.out.cell 18 _ rfl
  have c19 := HA0.out.cell 19 _ rfl
  have d19 := HB0.out.cell 19 _ rfl
  have c20 := HA0.out.cell 20 _ rfl
  have d20 := HB0.out.cell 20 _ rfl
  go_enter Tryd.func12, Tryd.ntmps12
  go_upto_region 1 with fail
  rw [← HWE.out]
  clear HWE
  go_wp2_with fail
  clear c0 d0 c1 d1 c2 d2 c3 d3 c4 d4 c5 d5 c6 d6 c7 d7 c8 d8 c9 d9 c10 d10 c11 d11 c12 d12 c14 d14 c15 d15 c18 d18 c19 d19 c20 d20
  go_loopw [5] (fun i wr => ∃ j : Nat, j ≤ kn ∧ i = .int .i64 j ∧ Hid (Below w.heap.size w wr) ∧ Hid (Box wr w.heap.size 33 [.int .i64 de, .int .i64 qu, .int .i64 wi, .int .i64 ti, .int .i64 qa, .int .i64 bu, .int .i64 le, .int .i64 pb, .int .i64 pc, .int .i64 pj, .int .i64 pt, .int .i64 nw, .int .i64 la, .slice ea1 en ec1, .slice ka1 kn kc1, .int .i64 tu, .slice fa1 fn fc1, .slice ra1 rn rc1, .int .i64 tk, .int .i64 ac, .int .i64 dr]) ∧ Hid (Box wr (w.heap.size + 1) 33 [.int .i64 de, .int .i64 qu, .int .i64 wi, .int .i64 ti, .int .i64 qa, .int .i64 bu, .int .i64 le, .int .i64 pb, .int .i64 pc, .int .i64 pj, .int .i64 pt, .int .i64 nw, .int .i64 la, .slice ea2 en ec2, .slice ka2 kn kc2, .int .i64 tu, .slice fa2 fn fc2, .slice ra2 rn rc2, .int .i64 tk, .int .i64 ac, .int .i64 dr])) (fun i _ => kn - (intOf i).toNat)
  case atStart => exact ⟨0, by omega, rfl, HL0, HA0, HB0⟩
  case round =>
    obtain ⟨j, hj, rfl, HL, HX, HY⟩ := hrel
    have hkm : kn ≤ 1048576 := HSM.out.2.1
    have z14 := HX.out.cell 14 _ rfl
    by_cases hlt : (j : Int) < (kn : Int)
    · have hjl : j < K.length := by have := HKN.out; omega
      obtain ⟨b1, o1, up, ep, sq, y, f1, fl, g1, rfl, hb1, hlj, hy1, c0, c1, c2, c3⟩ := (H1.out.lk.below HL.out).at j hjl
      obtain ⟨b2, o2, up', ep', sq', y', f2, fl', g2, rfl, hb2, hlj2, hy2, d0, d1, d2, d3⟩ := (H2.out.lk.below HL.out).at j hjl
      rw [hlj] at hlj2
      simp only [Lk.mk.injEq] at hlj2
      obtain ⟨rfl, rfl, rfl, rfl⟩ := hlj2
      obtain rfl : fl = fl' := by rw [← hy1.hlen, hy2.hlen]
      have hsz := HL.out.size
      have hs1 : b1 < wr.heap.size := by omega
      have hs2 : b2 < wr.heap.size := by omega
      have HY1 := Lib.hid (hy1.mono hsz)
      have HY2 := Lib.hid (hy2.mono hsz)
      have HFL := Lib.hid (show fl ≤ 1048576 by have h3 := HSM.out.2.2.1 K[j] (List.getElem_mem _); rw [hlj] at h3; have := hy1.hlen; dsimp only at h3; omega)
      clear hlj hy1 hy2 hb1 hb2 hsz
      go_upto_region 6 with fail
      have HQ := Lib.hid (show Below wr.heap.size wr wr.drew from below_drew' (Below.refl _ _))
      refine wp_region_held_drew (S := fun w' => Box w' w.heap.size 33 [.int .i64 de, .int .i64 qu, .int .i64 wi, .int .i64 ti, .int .i64 qa, .int .i64 bu, .int .i64 le, .int .i64 pb, .int .i64 pc, .int .i64 pj, .int .i64 pt, .int .i64 nw, .int .i64 la, .slice ea1 en ec1, .slice (some ⟨b1, o1, none⟩) kn kc1, .int .i64 tu, .slice fa1 fn fc1, .slice ra1 rn rc1, .int .i64 tk, .int .i64 ac, .int .i64 dr] ∧ Box w' (w.heap.size + 1) 33 [.int .i64 de, .int .i64 qu, .int .i64 wi, .int .i64 ti, .int .i64 qa, .int .i64 bu, .int .i64 le, .int .i64 pb, .int .i64 pc, .int .i64 pj, .int .i64 pt, .int .i64 nw, .int .i64 la, .slice ea2 en ec2, .slice (some ⟨b2, o2, none⟩) kn kc2, .int .i64 tu, .slice fa2 fn fc2, .slice ra2 rn rc2, .int .i64 tk, .int .i64 ac, .int .i64 dr] ∧ w'.cell? ⟨b1, o1 + j * 4, none⟩ = some (.bool up) ∧ w'.cell? ⟨b1, o1 + j * 4 + 1, none⟩ = some (.int .i64 ep) ∧ w'.cell? ⟨b1, o1 + j * 4 + 2, none⟩ = some (.int .i64 sq) ∧ w'.cell? ⟨b1, o1 + j * 4 + 3, none⟩ = some (.slice f1 fl g1) ∧ w'.cell? ⟨b2, o2 + j * 4, none⟩ = some (.bool up) ∧ w'.cell? ⟨b2, o2 + j * 4 + 1, none⟩ = some (.int .i64 ep) ∧ w'.cell? ⟨b2, o2 + j * 4 + 2, none⟩ = some (.int .i64 sq) ∧ w'.cell? ⟨b2, o2 + j * 4 + 3, none⟩ = some (.slice f2 fl g2)) (by kernel_rfl) ⟨HX.out.below HQ.out, HY.out.below HQ.out, (HQ.out.cell (p := ⟨b1, o1 + j * 4, none⟩) (by omega)).trans c0, (HQ.out.cell (p := ⟨b1, o1 + j * 4 + 1, none⟩) (by omega)).trans c1, (HQ.out.cell (p := ⟨b1, o1 + j * 4 + 2, none⟩) (by omega)).trans c2, (HQ.out.cell (p := ⟨b1, o1 + j * 4 + 3, none⟩) (by omega)).trans c3, (HQ.out.cell (p := ⟨b2, o2 + j * 4, none⟩) (by omega)).trans d0, (HQ.out.cell (p := ⟨b2, o2 + j * 4 + 1, none⟩) (by omega)).trans d1, (HQ.out.cell (p := ⟨b2, o2 + j * 4 + 2, none⟩) (by omega)).trans d2, (HQ.out.cell (p := ⟨b2, o2 + j * 4 + 3, none⟩) (by omega)).trans d3⟩ (fun hHeld => ?_)
      clear c0 c1 c2 c3 d0 d1 d2 d3 z14
      refine wpAnyH_take (i := 0) (oi := { dst := some _, op := _, type := _, pos := _, after := _, guard := _ }) (v := ?_) rfl (by kernel_rfl) (by kernel_rfl) (by kernel_rfl) (fun _ _ _ h => h) ?_ (by with_reducible assumption) ?_
      rotate_left 1
      focus (refine Or.inl ⟨by rfl, ?_⟩; intro wq hSw; go_simp; try with_reducible rfl)
      try simp only [Act.put, List.setIfInBounds_toArray, List.set_cons_zero, List.set_cons_succ]
      refine wpAnyH_take (i := 1) (oi := { dst := some _, op := _, type := _, pos := _, after := _, guard := _ }) (v := ?_) rfl (by kernel_rfl) (by kernel_rfl) (by kernel_rfl) (fun _ _ _ h => h) ?_ (by with_reducible assumption) ?_
      rotate_left 1
      focus (refine Or.inl ⟨by rfl, ?_⟩; intro wq hSw; have z0 := hSw.1.cell 14 _ rfl; go_simp; try with_reducible rfl)
      try simp only [Act.put, List.setIfInBounds_toArray, List.set_cons_zero, List.set_cons_succ]
      refine wpAnyH_take (i := 2) (oi := { dst := some _, op := _, type := _, pos := _, after := _, guard := _ }) (v := ?_) rfl (by kernel_rfl) (by kernel_rfl) (by kernel_rfl) (fun _ _ _ h => h) ?_ (by with_reducible assumption) ?_
      rotate_left 1
      focus (refine Or.inl ⟨by rfl, ?_⟩; intro wq hSw; go_simp; try with_reducible rfl)
      try simp only [Act.put, List.setIfInBounds_toArray, List.set_cons_zero, List.set_cons_succ]
      refine wpAnyH_take (i := 3) (oi := { dst := some _, op := _, type := _, pos := _, after := _, guard := _ }) (v := ?_) rfl (by kernel_rfl) (by kernel_rfl) (by kernel_rfl) (fun _ _ _ h => h) ?_ (by with_reducible assumption) ?_
      rotate_left 1
      focus (refine Or.inl ⟨by rfl, ?_⟩; intro wq hSw; go_simp; try with_reducible rfl)
      try simp only [Act.put, List.setIfInBounds_toArray, List.set_cons_zero, List.set_cons_succ]
      refine wpAnyH_take (i := 4) (oi := { dst := some _, op := _, type := _, pos := _, after := _, guard := _ }) (v := ?_) rfl (by kernel_rfl) (by kernel_rfl) (by kernel_rfl) (fun _ _ _ h => h) ?_ (by with_reducible assumption) ?_
      rotate_left 1
      focus (refine Or.inl ⟨by rfl, ?_⟩; intro wq hSw; have u0 := hSw.2.2.1; have u1 := hSw.2.2.2.1; have u2 := hSw.2.2.2.2.1; have u3 := hSw.2.2.2.2.2.1; go_simp; try with_reducible rfl)
      try simp only [Act.put, List.setIfInBounds_toArray, List.set_cons_zero, List.set_cons_succ]
      refine wpAnyH_take (i := 5) (oi := { dst := some _, op := _, type := _, pos := _, after := _, guard := _ }) (v := ?_) rfl (by kernel_rfl) (by kernel_rfl) (by kernel_rfl) (fun _ _ _ h => h) ?_ (by with_reducible assumption) ?_
      rotate_left 1
      focus (refine Or.inl ⟨by rfl, ?_⟩; intro wq hSw; go_simp; try with_reducible rfl)
      try simp only [Act.put, List.setIfInBounds_toArray, List.set_cons_zero, List.set_cons_succ]
      refine wpAnyH_take (i := 6) (oi := { dst := some _, op := _, type := _, pos := _, after := _, guard := _ }) (v := ?_) rfl (by kernel_rfl) (by kernel_rfl) (by kernel_rfl) (fun _ _ _ h => h) ?_ (by with_reducible assumption) ?_
      rotate_left 1
      focus (refine Or.inl ⟨by rfl, ?_⟩; intro wq hSw; have z0 := hSw.2.1.cell 14 _ rfl; go_simp; try with_reducible rfl)
      try simp only [Act.put, List.setIfInBounds_toArray, List.set_cons_zero, List.set_cons_succ]
      refine wpAnyH_take (i := 7) (oi := { dst := some _, op := _, type := _, pos := _, after := _, guard := _ }) (v := ?_) rfl (by kernel_rfl) (by kernel_rfl) (by kernel_rfl) (fun _ _ _ h => h) ?_ (by with_reducible assumption) ?_
      rotate_left 1
      focus (refine Or.inl ⟨by rfl, ?_⟩; intro wq hSw; go_simp; try with_reducible rfl)
      try simp only [Act.put, List.setIfInBounds_toArray, List.set_cons_zero, List.set_cons_succ]
      refine wpAnyH_take (i := 8) (oi := { dst := some _, op := _, type := _, pos := _, after := _, guard := _ }) (v := ?_) rfl (by kernel_rfl) (by kernel_rfl) (by kernel_rfl) (fun _ _ _ h => h) ?_ (by with_reducible assumption) ?_
      rotate_left 1
      focus (refine Or.inl ⟨by rfl, ?_⟩; intro wq hSw; go_simp; try with_reducible rfl)
      try simp only [Act.put, List.setIfInBounds_toArray, List.set_cons_zero, List.set_cons_succ]
      refine wpAnyH_take (i := 9) (oi := { dst := some _, op := _, type := _, pos := _, after := _, guard := _ }) (v := ?_) rfl (by kernel_rfl) (by kernel_rfl) (by kernel_rfl) (fun _ _ _ h => h) ?_ (by with_reducible assumption) ?_
      rotate_left 1
      focus (refine Or.inl ⟨by rfl, ?_⟩; intro wq hSw; have u4 := hSw.2.2.2.2.2.2.1; have u5 := hSw.2.2.2.2.2.2.2.1; have u6 := hSw.2.2.2.2.2.2.2.2.1; have u7 := hSw.2.2.2.2.2.2.2.2.2; go_simp; try with_reducible rfl)
      try simp only [Act.put, List.setIfInBounds_toArray, List.set_cons_zero, List.set_cons_succ]
      refine wpAnyH_ready (rs := [10]) (by kernel_rfl) (by simp) ?_
      refine AllReadyH.cons rfl (fun KA hKA => ?_) AllReadyH.nil
      go_simp
      refine (Lnk.sameLink_yes _ wr.heap.size f1 f2 fl g1 g2 up ep sq y (HY1.out.below HQ.out) (HY2.out.below HQ.out) (by have := HFL.out; omega) HQ.out.size).mono ?_
      rintro e v1 ⟨rfl, hb⟩
      have HS1 := Lib.hid (show Box v1 w.heap.size 33 [.int .i64 de, .int .i64 qu, .int .i64 wi, .int .i64 ti, .int .i64 qa, .int .i64 bu, .int .i64 le, .int .i64 pb, .int .i64 pc, .int .i64 pj, .int .i64 pt, .int .i64 nw, .int .i64 la, .slice ea1 en ec1, .slice (some ⟨b1, o1, none⟩) kn kc1, .int .i64 tu, .slice fa1 fn fc1, .slice ra1 rn rc1, .int .i64 tk, .int .i64 ac, .int .i64 dr] ∧ Box v1 (w.heap.size + 1) 33 [.int .i64 de, .int .i64 qu, .int .i64 wi, .int .i64 ti, .int .i64 qa, .int .i64 bu, .int .i64 le, .int .i64 pb, .int .i64 pc, .int .i64 pj, .int .i64 pt, .int .i64 nw, .int .i64 la, .slice ea2 en ec2, .slice (some ⟨b2, o2, none⟩) kn kc2, .int .i64 tu, .slice fa2 fn fc2, .slice ra2 rn rc2, .int .i64 tk, .int .i64 ac, .int .i64 dr] ∧ v1.cell? ⟨b1, o1 + j * 4, none⟩ = some (.bool up) ∧ v1.cell? ⟨b1, o1 + j * 4 + 1, none⟩ = some (.int .i64 ep) ∧ v1.cell? ⟨b1, o1 + j * 4 + 2, none⟩ = some (.int .i64 sq) ∧ v1.cell? ⟨b1, o1 + j * 4 + 3, none⟩ = some (.slice f1 fl g1) ∧ v1.cell? ⟨b2, o2 + j * 4, none⟩ = some (.bool up) ∧ v1.cell? ⟨b2, o2 + j * 4 + 1, none⟩ = some (.int .i64 ep) ∧ v1.cell? ⟨b2, o2 + j * 4 + 2, none⟩ = some (.int .i64 sq) ∧ v1.cell? ⟨b2, o2 + j * 4 + 3, none⟩ = some (.slice f2 fl g2) from ⟨hHeld.1.below hb, hHeld.2.1.below hb, (hb.cell (p := ⟨b1, o1 + j * 4, none⟩) (World.block_lt_of_cell? _ _ hHeld.2.2.1)).trans hHeld.2.2.1, (hb.cell (p := ⟨b1, o1 + j * 4 + 1, none⟩) (World.block_lt_of_cell? _ _ hHeld.2.2.2.1)).trans hHeld.2.2.2.1, (hb.cell (p := ⟨b1, o1 + j * 4 + 2, none⟩) (World.block_lt_of_cell? _ _ hHeld.2.2.2.2.1)).trans hHeld.2.2.2.2.1, (hb.cell (p := ⟨b1, o1 + j * 4 + 3, none⟩) (World.block_lt_of_cell? _ _ hHeld.2.2.2.2.2.1)).trans hHeld.2.2.2.2.2.1, (hb.cell (p := ⟨b2, o2 + j * 4, none⟩) (World.block_lt_of_cell? _ _ hHeld.2.2.2.2.2.2.1)).trans hHeld.2.2.2.2.2.2.1, (hb.cell (p := ⟨b2, o2 + j * 4 + 1, none⟩) (World.block_lt_of_cell? _ _ hHeld.2.2.2.2.2.2.2.1)).trans hHeld.2.2.2.2.2.2.2.1, (hb.cell (p := ⟨b2, o2 + j * 4 + 2, none⟩) (World.block_lt_of_cell? _ _ hHeld.2.2.2.2.2.2.2.2.1)).trans hHeld.2.2.2.2.2.2.2.2.1, (hb.cell (p := ⟨b2, o2 + j * 4 + 3, none⟩) (World.block_lt_of_cell? _ _ hHeld.2.2.2.2.2.2.2.2.2)).trans hHeld.2.2.2.2.2.2.2.2.2⟩)
      replace HQ := Lib.hid (low_after HQ.out hb)
      clear hb hHeld
      dsimp only
      refine hKA.out _ _ (HS1.out) (fun hHeld => ?_)
      clear hKA
      try simp only [Act.put, List.setIfInBounds_toArray, List.set_cons_zero, List.set_cons_succ]
      refine wpAnyH_take (i := 11) (oi := { dst := some _, op := _, type := _, pos := _, after := _, guard := _ }) (v := ?_) rfl (by kernel_rfl) (by kernel_rfl) (by kernel_rfl) (fun _ _ _ h => h) ?_ (by with_reducible assumption) ?_
      rotate_left 1
      focus (refine Or.inl ⟨by rfl, ?_⟩; intro wq hSw; go_simp; try with_reducible rfl)
      try simp only [Act.put, List.setIfInBounds_toArray, List.set_cons_zero, List.set_cons_succ]
      refine wpAnyH_done (by kernel_rfl) ?_ _
      have HL5 := Lib.hid (low_after HL.out HQ.out)
      have HX5 := Lib.hid HS1.out.1
      have HY5 := Lib.hid HS1.out.2.1
      clear HS1 HQ HL HX HY
      go_wp2_with fail
      go_roundw
      case rel => exact ⟨j + 1, by omega, by go_num, by trivial⟩
      case measure => simp [intOf]; omega
    · have c13 := HX.out.cell 13 _ rfl
      have d13 := HY.out.cell 13 _ rfl
      go_wp2_with fail
      refine (sameEvents_yes _ _ ea1 ea2 en ec1 ec2 E (H1.out.ev.here HL.out) (H2.out.ev.here HL.out) (Nat.le_refl _)).mono ?_
      rintro e v1 ⟨rfl, hb⟩
      have HL1 := Lib.hid (low_after HL.out hb)
      have HX1 := Lib.hid (HX.out.below hb)
      have HY1 := Lib.hid (HY.out.below hb)
      clear hb c13 d13 z14
      have c16 := HX1.out.cell 16 _ rfl
      have d16 := HY1.out.cell 16 _ rfl
      go_wp2_with fail
      refine (Lnk.sameInts_yes _ _ fa1 fa2 fn fc1 fc2 F (H1.out.lf.here HL1.out) (H2.out.lf.here HL1.out) (by have := HSM.out.2.2.2.1; omega) (Nat.le_refl _)).mono ?_
      rintro e v2 ⟨rfl, hb⟩
      have HL2 := Lib.hid (low_after HL1.out hb)
      have HX2 := Lib.hid (HX1.out.below hb)
      have HY2 := Lib.hid (HY1.out.below hb)
      clear hb c16 d16
      have c17 := HX2.out.cell 17 _ rfl
      have d17 := HY2.out.cell 17 _ rfl
      go_wp2_with fail
      refine (Lnk.sameInts_yes _ _ ra1 ra2 rn rc1 rc2 R (H1.out.lt.here HL2.out) (H2.out.lt.here HL2.out) (by have := HSM.out.2.2.2.2; omega) (Nat.le_refl _)).mono ?_
      rintro e v3 ⟨rfl, hb⟩
      have HL3 := Lib.hid (low_after HL2.out hb)
      clear hb c17 d17
      go_wp2_with fail
      go_ret
      exact ⟨rfl, HL3.out⟩

end Go.Proofs.YtkndpkingmemoaaDoor.Gat
