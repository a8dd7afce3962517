/-
  The walks of the draws of a wheel and what stands beside it.
-/
import Derived.Test.YtkoliacbajpijaaDoorOddW
namespace Go.Proofs.YtkoliacbajpijaaDoor.Whl
open Go.RowKit Go.Maps Go.Proofs.YtkoliacbajpijaaDoor.Kit Go.Proofs.YtkoliacbajpijaaDoor.Draw
set_option linter.unusedVariables false
set_option linter.unusedSimpArgs false

/-- a draw under way: W0 is the world behind the boxes of its answer -/
structure DrS (B : Nat) (W0 wr : World) (cb : Nat) (a0 : Option Addr) (len0 cap0 b5 : Nat) (now : Int) (a : Option Addr) (n cap : Nat) (l : List T) : Prop where
  dr : Dr B wr cb 85 a0 len0 cap0
  low : Below W0.heap.size W0 wr
  x : Bx wr b5 (.int .i64 now) (.slice a n cap)
  own : TOwn W0.heap.size wr 28 (.slice a n cap) l
  hcb : W0.heap.size ≤ cb
  h5 : cb < b5
  sep : ∀ j, (Value.slice a n cap).ownBlock = some j → cb < j
theorem DrS.went {B cb len0 cap0 b5 n cap : Nat} {W0 wr w' : World} {a0 a : Option Addr} {now : Int} {l : List T} (h : DrS B W0 wr cb a0 len0 cap0 b5 now a n cap l) (hw : Went B wr w' cb 85 a0 len0 cap0) : DrS B W0 w' cb a0 len0 cap0 b5 now a n cap l where
  dr := hw.dr
  low := h.low.grown hw.grown h.low.size (fun k e => by injection e with e; have := h.hcb; omega)
  x := h.x.grown hw.grown (fun e => by injection e with e; have := h.h5; omega)
  own := h.own.grown hw.grown (by
    cases hv : (Value.slice a n cap).ownBlock with
    | none => exact .inl rfl
    | some j => exact .inr (fun e => by injection e with e; have := h.sep j hv; omega))
  hcb := h.hcb
  h5 := h.h5
  sep := h.sep
theorem DrS.below {B cb len0 cap0 b5 n cap : Nat} {W0 wr w' : World} {a0 a : Option Addr} {now : Int} {l : List T} (h : DrS B W0 wr cb a0 len0 cap0 b5 now a n cap l) (hb : Below wr.heap.size wr w') : DrS B W0 w' cb a0 len0 cap0 b5 now a n cap l := h.went (went_of_below h.dr hb)
theorem DrS.new {B cb len0 cap0 n cap : Nat} {W0 w1 w2 : World} {a0 a : Option Addr} {now : Int} {l : List T} (hl : Below W0.heap.size W0 w1) (hcb : W0.heap.size ≤ cb) (hs : w1.heap.size = cb + 1) (ho : TOwn w1.heap.size w2 28 (.slice a n cap) l) (hw : Went B w1 w2 cb 85 a0 len0 cap0) :
    DrS B W0 (w2.alloc (.cells #[.int .i64 now, .slice a n cap] 26)) cb a0 len0 cap0 w2.heap.size now a n cap l where
  dr := (went_of_below hw.dr (bOne _ _)).dr
  low := (hl.grown hw.grown hl.size (fun k e => by injection e with e; omega)).alloc (Nat.le_trans hl.size hw.grown.size) _
  x := Bx.new w2 _ _ _
  own := (ho.below (bOne _ _)).base (by omega)
  hcb := hcb
  h5 := by have := hw.grown.size; omega
  sep := fun j hj => by have := (World.ownsRow.lt ho j hj).1; omega
/-- what a draw hands back of its wheel -/
structure DwR (w w' : World) (now : Int) (a : Option Addr) (n cap : Nat) (l : List T) : Prop where
  own : TOwn w.heap.size w' 28 (.slice a n cap) l
  le : n ≤ 62
  len : n = l.length
  n0 : -1 ≤ now
  n1 : now ≤ 1000000001
/-- the answer's box is written -/
theorem DrS.done {B cb len0 cap0 b5 n cap b2 : Nat} {w W0 wr : World} {a0 a : Option Addr} {now : Int} {l : List T} (h : DrS B W0 wr cb a0 len0 cap0 b5 now a n cap l) (hb : Below w.heap.size w W0) (h2 : w.heap.size ≤ b2) (h3 : b2 < W0.heap.size) (u v : Value) (hn : n ≤ 62) (hl : n = l.length) (h0 : -1 ≤ now) (h1 : now ≤ 1000000001) :
    DwR w ((wr.setCell ⟨b2, 0, none⟩ u).setCell ⟨b2, 1, none⟩ v) now a n cap l ∧ Below w.heap.size w ((wr.setCell ⟨b2, 0, none⟩ u).setCell ⟨b2, 1, none⟩ v) :=
  ⟨⟨((h.own.setLow (by exact h3) _).setLow (by exact h3) _).base hb.size, hn, hl, h0, h1⟩, ((hb.trans (h.low.mono hb.size)).setCell (by exact h2) _).setCell (by exact h2) _⟩
theorem nums_t1 : ∀ (W : World), Nums (W.alloc (.cells #[.int .i64 0, .int .i64 1, .int .i64 2, .int .i64 5, .int .i64 64, .int .i64 70, .int .i64 5000, .int .i64 (-1)] 3)) W.heap.size 8 pz := fun W => nums_new W [.int .i64 0, .int .i64 1, .int .i64 2, .int .i64 5, .int .i64 64, .int .i64 70, .int .i64 5000, .int .i64 (-1)] 3 pz (by
  intro v hv
  simp only [List.mem_cons, List.mem_nil_iff, or_false] at hv
  rcases hv with rfl | rfl | rfl | rfl | rfl | rfl | rfl | rfl <;> exact pz_of (by omega) (by omega))
theorem nums_s1 : ∀ (W : World), Nums (W.alloc (.cells #[.int .i64 1, .int .i64 2, .int .i64 6, .int .i64 64, .int .i64 0, .int .i64 (-1)] 3)) W.heap.size 6 pz := fun W => nums_new W [.int .i64 1, .int .i64 2, .int .i64 6, .int .i64 64, .int .i64 0, .int .i64 (-1)] 3 pz (by
  intro v hv
  simp only [List.mem_cons, List.mem_nil_iff, or_false] at hv
  rcases hv with rfl | rfl | rfl | rfl | rfl | rfl <;> exact pz_of (by omega) (by omega))
theorem nums_s2 : ∀ (W : World), Nums (W.alloc (.cells #[.int .i64 1, .int .i64 2, .int .i64 5, .int .i64 9, .int .i64 9999, .int .i64 0, .int .i64 10000] 3)) W.heap.size 7 py := fun W => nums_new W [.int .i64 1, .int .i64 2, .int .i64 5, .int .i64 9, .int .i64 9999, .int .i64 0, .int .i64 10000] 3 py (by
  intro v hv
  simp only [List.mem_cons, List.mem_nil_iff, or_false] at hv
  rcases hv with rfl | rfl | rfl | rfl | rfl | rfl | rfl <;> exact py_of (by omega) (by omega))

set_option maxRecDepth 100000 in
set_option maxHeartbeats 1000000 in
theorem drawNext_draw (w : World) (B : Nat) (a0 : Option Addr) (len0 cap0 : Nat) (hcode : CodeAt B w a0 len0 cap0) (hB : B ≤ w.heap.size) :
    Calls Tryd.prog 21 #[.slice a0 len0 cap0] w fun e w' => ∃ now a n cap l, e = .returned (.agg #[.int .i64 now, .slice a n cap]) ∧ DwR w w' now a n cap l ∧ Below w.heap.size w w' := by
  have hb0 := bOne w (.cells #[.int .i64 0, .slice none 0 0] 26)
  have HC := Lib.hid (hcode.below (hb0.mono hB))
  have HB0 := Lib.hid hb0
  have HZ := Lib.hid (Bz.new w)
  have HBB := Lib.hid (Nat.le_trans hB hb0.size)
  clear hcode hb0
  go_enter Tryd.func21, Tryd.ntmps21
  go_wp2_with fail
  obtain ⟨W0, hW0⟩ : ∃ W, W = w.alloc (.cells #[.int .i64 0, .slice none 0 0] 26) := ⟨_, rfl⟩
  rw [← hW0] at HC HB0 HZ HBB ⊢
  have HS0 := Lib.hid (show w.heap.size < W0.heap.size by rw [hW0]; simp)
  clear hW0
  refine (new_draw _ B a0 len0 cap0 HC.out HBB.out).mono ?_
  rintro e w1 ⟨rfl, hd1, hb1, hs1⟩
  have HB1 := Lib.hid hb1
  have HS1 := Lib.hid hs1
  clear hb1 hs1
  go_wp2_with fail
  refine (odd_draw _ W0.heap.size B a0 len0 cap0 hd1).mono ?_
  rintro e w2 ⟨⟨now, a, n, cap, l, rfl, ho, hn, hnl, hz0, hz1⟩, hw2⟩
  have hlow : Below W0.heap.size W0 w2 := HB1.out.grown hw2.grown HB1.out.size (fun k e => by injection e with e; omega)
  obtain ⟨z0, z1, g0, g1, zl⟩ := (show Bz w2 w.heap.size from ⟨HZ.out.box.low hlow HS0.out, HZ.out.fro.low hlow HS0.out⟩).cells
  have HO := Lib.hid ho
  have HLO := Lib.hid hlow
  have HNL := Lib.hid hnl
  clear hd1 hw2 hlow ho hnl
  go_wp2_with fail
  refine bodyPost_ret (v := .agg #[.int .i64 now, .slice a n cap]) (by simp [results, Tryd.results21, go_sem, z0, z1]) rfl ⟨now, a, n, cap, l, rfl, ⟨?_, hn, HNL.out, hz0, hz1⟩, ?_⟩
  · exact ((HO.out.setLow (by have := HS0.out; have := HS1.out; show w.heap.size < w1.heap.size; omega) _).setLow (by have := HS0.out; have := HS1.out; show w.heap.size < w1.heap.size; omega) _).base (by have := HS0.out; have := HS1.out; omega)
  · exact ((HB0.out.trans (HLO.out.mono HB0.out.size)).setCell (Nat.le_refl _) _).setCell (Nat.le_refl _) _

set_option maxRecDepth 100000 in
set_option maxHeartbeats 1000000 in
theorem drawDrop_draw (w : World) (B : Nat) (a0 : Option Addr) (len0 cap0 : Nat) (hcode : CodeAt B w a0 len0 cap0) (hB : B ≤ w.heap.size) :
    Calls Tryd.prog 20 #[.slice a0 len0 cap0] w fun e w' => ∃ now a n cap l y, e = .returned (.tuple #[.agg #[.int .i64 now, .slice a n cap], .int .i64 y]) ∧ DwR w w' now a n cap l ∧ 0 ≤ y ∧ y ≤ 10 ∧ Below w.heap.size w w' := by
  have hb0 : Below w.heap.size w (w.alloc (.cells #[.int .i64 0, .slice none 0 0] 26)) := bOne _ _
  have HC := Lib.hid (hcode.below (hb0.mono hB))
  have HB0 := Lib.hid hb0
  have HZ := Lib.hid (Bz.new w)
  have HBB := Lib.hid (Nat.le_trans hB hb0.size)
  clear hcode hb0
  go_enter Tryd.func20, Tryd.ntmps20
  go_wp2_with fail
  obtain ⟨W0, hW0⟩ : ∃ W, W = w.alloc (.cells #[.int .i64 0, .slice none 0 0] 26) := ⟨_, rfl⟩
  rw [← hW0] at HC HB0 HZ HBB ⊢
  have HS0 := Lib.hid (show W0.heap.size = w.heap.size + 1 by rw [hW0]; simp)
  clear hW0
  refine (new_draw _ B a0 len0 cap0 HC.out HBB.out).mono ?_
  rintro e w1 ⟨rfl, hd1, hb1, hs1⟩
  have HB1 := Lib.hid hb1
  have HS1 := Lib.hid hs1
  clear hb1 hs1
  go_wp2_with fail
  refine (odd_draw _ W0.heap.size B a0 len0 cap0 hd1).mono ?_
  rintro e w2 ⟨⟨now, a, n, cap, l, rfl, ho, hn, hnl, hz0, hz1⟩, hw2⟩
  have hds := DrS.new (W0 := W0) (now := now) HB1.out (Nat.le_refl _) HS1.out ho hw2
  have HDS := Lib.hid hds
  have HNL := Lib.hid hnl
  obtain ⟨b5, hb5⟩ : ∃ b, b = w2.heap.size := ⟨_, rfl⟩
  rw [← hb5] at HDS
  have HB5 := Lib.hid hb5
  have e0 := HDS.out.x.c0
  have e1 := HDS.out.x.c1
  obtain ⟨cb, hcb⟩ : ∃ cb, cb = W0.heap.size := ⟨_, rfl⟩
  have HDS := Lib.hid (show DrS B W0 _ cb a0 len0 cap0 b5 now a n cap l by rw [hcb]; exact hb5 ▸ hds)
  have HCB := Lib.hid hcb
  clear hd1 hds hw2 ho hnl hb5 hcb
  go_upto_region 3 with fail
  obtain ⟨w3, hw3⟩ : ∃ w3, w3 = w2.alloc (.cells #[.int .i64 now, .slice a n cap] 26) := ⟨_, rfl⟩
  rw [← HCB.out, ← HB5.out, ← hw3]
  rw [← hw3] at HDS e0 e1
  clear hw3 e0 e1
  have HDd := Lib.hid (HDS.out.below (below_drew' (Below.refl _ _)))
  refine Rk.wp_region_K (k := 3) (S := fun w' => w'.cell? ⟨b5, 0, none⟩ = some (.int .i64 now) ∧ w'.cell? ⟨b5, 1, none⟩ = some (.slice a n cap)) (by kernel_rfl) ⟨HDS.out.x.c0, HDS.out.x.c1⟩ (fun hHeld => ?_)
  refine Rk.wpAnyK_take (i := 0) (oi := { dst := some _, op := _, type := _, pos := _, after := _, guard := _ }) (v := ?_) rfl (by kernel_rfl) (by kernel_rfl) (by kernel_rfl) (by kernel_rfl) (by kernel_rfl) (fun _ _ _ h => h) ?_ (by assumption) ?_
  rotate_left 1
  focus (refine Or.inl ⟨by rfl, ?_⟩; intro wq hSw; obtain ⟨s0, s1⟩ := hSw; go_simp; try with_reducible rfl)
  try simp only [Act.put, List.setIfInBounds_toArray, List.set_cons_zero, List.set_cons_succ]
  refine Rk.wpAnyK_take (i := 1) (oi := { dst := some _, op := _, type := _, pos := _, after := _, guard := _ }) (v := ?_) rfl (by kernel_rfl) (by kernel_rfl) (by kernel_rfl) (by kernel_rfl) (by kernel_rfl) (fun _ _ _ h => h) ?_ (by assumption) ?_
  rotate_left 1
  focus (refine Or.inl ⟨by rfl, ?_⟩; intro wq hSw; go_simp; try with_reducible rfl)
  try simp only [Act.put, List.setIfInBounds_toArray, List.set_cons_zero, List.set_cons_succ]
  refine Rk.wpAnyK_ready (rs := [2]) (by kernel_rfl) (by simp) ?_
  refine Rk.AllReadyK.cons rfl (fun KK hKK => ?_) Rk.AllReadyK.nil
  go_simp
  refine (below_draw _ cb B a0 len0 cap0 HDd.out.dr 11 (by omega) (by omega)).mono ?_
  rintro e w4 ⟨⟨y, rfl, hy0, hy1⟩, hw4⟩
  have HD4 := Lib.hid (HDd.out.went hw4)
  clear hw4
  dsimp only
  refine hKK.out _ _ ⟨HD4.out.x.c0, HD4.out.x.c1⟩ (fun hHeld => ?_)
  clear hKK
  try simp only [Act.put, List.setIfInBounds_toArray, List.set_cons_zero, List.set_cons_succ]
  obtain ⟨z0, z1, y0, y1, zl⟩ := (show Bz w4 w.heap.size from ⟨HZ.out.box.low HD4.out.low (by have := HS0.out; omega), HZ.out.fro.low HD4.out.low (by have := HS0.out; omega)⟩).cells
  refine Rk.wpAnyK_ready (rs := [3]) (by kernel_rfl) (by simp) ?_
  refine Rk.AllReadyK.past rfl (by kernel_rfl) (fun KK hKK => ?_) Rk.AllReadyK.nil
  go_simp
  refine hKK.out _ _ ?_
  clear hKK
  try simp only [Act.put, List.setIfInBounds_toArray, List.set_cons_zero, List.set_cons_succ]
  refine Rk.wpAnyK_ready (rs := [4]) (by kernel_rfl) (by simp) ?_
  refine Rk.AllReadyK.past rfl (by kernel_rfl) (fun KK hKK => ?_) Rk.AllReadyK.nil
  go_simp
  refine hKK.out _ _ ?_
  clear hKK
  try simp only [Act.put, List.setIfInBounds_toArray, List.set_cons_zero, List.set_cons_succ]
  refine Rk.wpAnyK_done (by kernel_rfl) ?_ _
  have HDN := Lib.hid (fun u v => HD4.out.done (b2 := w.heap.size) HB0.out (Nat.le_refl _) (by have := HS0.out; omega) u v hn HNL.out hz0 hz1)
  go_wp2_with fail
  exact bodyPost_ret (v := .tuple #[.agg #[.int .i64 now, .slice a n cap], .int .i64 y]) (by simp [results, Tryd.results20, go_sem, z0, z1]) rfl ⟨now, a, n, cap, l, y, rfl, (HDN.out _ _).1, by omega, by omega, (HDN.out _ _).2⟩

set_option maxRecDepth 100000 in
set_option maxHeartbeats 1000000 in
theorem drawTurn_draw (w : World) (B : Nat) (a0 : Option Addr) (len0 cap0 : Nat) (hcode : CodeAt B w a0 len0 cap0) (hB : B ≤ w.heap.size) :
    Calls Tryd.prog 24 #[.slice a0 len0 cap0] w fun e w' => ∃ now a n cap l y, e = .returned (.tuple #[.agg #[.int .i64 now, .slice a n cap], .int .i64 y]) ∧ DwR w w' now a n cap l ∧ Below w.heap.size w w' := by
  have hb0 : Below w.heap.size w (w.alloc (.cells #[.int .i64 0, .slice none 0 0] 26)) := bOne _ _
  have HC := Lib.hid (hcode.below (hb0.mono hB))
  have HB0 := Lib.hid hb0
  have HZ := Lib.hid (Bz.new w)
  have HBB := Lib.hid (Nat.le_trans hB hb0.size)
  clear hcode hb0
  go_enter Tryd.func24, Tryd.ntmps24
  go_wp2_with fail
  obtain ⟨W0, hW0⟩ : ∃ W, W = w.alloc (.cells #[.int .i64 0, .slice none 0 0] 26) := ⟨_, rfl⟩
  rw [← hW0] at HC HB0 HZ HBB ⊢
  have HS0 := Lib.hid (show W0.heap.size = w.heap.size + 1 by rw [hW0]; simp)
  clear hW0
  refine (new_draw _ B a0 len0 cap0 HC.out HBB.out).mono ?_
  rintro e w1 ⟨rfl, hd1, hb1, hs1⟩
  have HB1 := Lib.hid hb1
  have HS1 := Lib.hid hs1
  clear hb1 hs1
  go_wp2_with fail
  refine (odd_draw _ W0.heap.size B a0 len0 cap0 hd1).mono ?_
  rintro e w2 ⟨⟨now, a, n, cap, l, rfl, ho, hn, hnl, hz0, hz1⟩, hw2⟩
  have hds := DrS.new (W0 := W0) (now := now) HB1.out (Nat.le_refl _) HS1.out ho hw2
  have HDS := Lib.hid hds
  have HNL := Lib.hid hnl
  obtain ⟨b5, hb5⟩ : ∃ b, b = w2.heap.size := ⟨_, rfl⟩
  rw [← hb5] at HDS
  have HB5 := Lib.hid hb5
  have e0 := HDS.out.x.c0
  have e1 := HDS.out.x.c1
  obtain ⟨cb, hcb⟩ : ∃ cb, cb = W0.heap.size := ⟨_, rfl⟩
  have HDS := Lib.hid (show DrS B W0 _ cb a0 len0 cap0 b5 now a n cap l by rw [hcb]; exact hb5 ▸ hds)
  have HCB := Lib.hid hcb
  clear hd1 hds hw2 ho hnl hb5 hcb
  go_upto_region 3 with fail
  obtain ⟨w3, hw3⟩ : ∃ w3, w3 = w2.alloc (.cells #[.int .i64 now, .slice a n cap] 26) := ⟨_, rfl⟩
  rw [← HCB.out, ← HB5.out, ← hw3]
  rw [← hw3] at HDS e0 e1
  clear hw3 e0 e1
  have HDd := Lib.hid (HDS.out.below (below_drew' (Below.refl _ _)))
  refine Rk.wp_region_K (k := 8) (S := fun w' => w'.cell? ⟨b5, 0, none⟩ = some (.int .i64 now) ∧ w'.cell? ⟨b5, 1, none⟩ = some (.slice a n cap)) (by kernel_rfl) ⟨HDS.out.x.c0, HDS.out.x.c1⟩ (fun hHeld => ?_)
  refine Rk.wpAnyK_take (i := 0) (oi := { dst := some _, op := _, type := _, pos := _, after := _, guard := _ }) (v := ?_) rfl (by kernel_rfl) (by kernel_rfl) (by kernel_rfl) (by kernel_rfl) (by kernel_rfl) (fun _ _ _ h => h) ?_ (by assumption) ?_
  rotate_left 1
  focus (refine Or.inl ⟨by rfl, ?_⟩; intro wq hSw; obtain ⟨s0, s1⟩ := hSw; go_simp; try with_reducible rfl)
  try simp only [Act.put, List.setIfInBounds_toArray, List.set_cons_zero, List.set_cons_succ]
  refine Rk.wpAnyK_take (i := 1) (oi := { dst := some _, op := _, type := _, pos := _, after := _, guard := _ }) (v := ?_) rfl (by kernel_rfl) (by kernel_rfl) (by kernel_rfl) (by kernel_rfl) (by kernel_rfl) (fun _ _ _ h => h) ?_ (by assumption) ?_
  rotate_left 1
  focus (refine Or.inl ⟨by rfl, ?_⟩; intro wq hSw; go_simp; try with_reducible rfl)
  try simp only [Act.put, List.setIfInBounds_toArray, List.set_cons_zero, List.set_cons_succ]
  refine Rk.wpAnyK_take (i := 2) (oi := { dst := some _, op := _, type := _, pos := _, after := _, guard := _ }) (v := ?_) rfl (by kernel_rfl) (by kernel_rfl) (by kernel_rfl) (by kernel_rfl) (by kernel_rfl) (fun _ _ _ h => h) ?_ (by assumption) ?_
  rotate_left 1
  focus (refine Or.inl ⟨by rfl, ?_⟩; intro wq hSw; obtain ⟨s0, s1⟩ := hSw; go_simp; try with_reducible rfl)
  try simp only [Act.put, List.setIfInBounds_toArray, List.set_cons_zero, List.set_cons_succ]
  refine Rk.wpAnyK_take (i := 3) (oi := { dst := some _, op := _, type := _, pos := _, after := _, guard := _ }) (v := ?_) rfl (by kernel_rfl) (by kernel_rfl) (by kernel_rfl) (by kernel_rfl) (by kernel_rfl) (fun _ _ _ h => h) ?_ (by assumption) ?_
  rotate_left 1
  focus (refine Or.inl ⟨by rfl, ?_⟩; intro wq hSw; go_simp; try with_reducible rfl)
  try simp only [Act.put, List.setIfInBounds_toArray, List.set_cons_zero, List.set_cons_succ]
  refine Rk.wpAnyK_ready (rs := [4]) (by kernel_rfl) (by simp) ?_
  refine Rk.AllReadyK.cons rfl (fun KK hKK => ?_) Rk.AllReadyK.nil
  go_simp
  have HNX := Lib.hid (show Nums (w3.drew.alloc (.cells #[.int .i64 0, .int .i64 1, .int .i64 2, .int .i64 5, .int .i64 64, .int .i64 70, .int .i64 5000, .int .i64 (-1)] 3)) w3.heap.size 8 pz from nums_t1 w3.drew)
  have HBX := Lib.hid (show Below w3.drew.heap.size w3.drew (w3.drew.alloc (.cells #[.int .i64 0, .int .i64 1, .int .i64 2, .int .i64 5, .int .i64 64, .int .i64 70, .int .i64 5000, .int .i64 (-1)] 3)) from bOne _ _)
  have HDX := Lib.hid (HDd.out.below HBX.out)
  have HNE := Lib.hid (show w3.heap.size ≠ cb by have := HDd.out.dr.cur.lt; simp at this; omega)
  have HLX := Lib.hid (show w3.heap.size < (w3.drew.alloc (.cells #[.int .i64 0, .int .i64 1, .int .i64 2, .int .i64 5, .int .i64 64, .int .i64 70, .int .i64 5000, .int .i64 (-1)] 3)).heap.size by simp)
  refine hKK.out _ _ ⟨HDX.out.x.c0, HDX.out.x.c1⟩ (fun hHeld => ?_)
  clear hKK
  try simp only [Act.put, List.setIfInBounds_toArray, List.set_cons_zero, List.set_cons_succ]
  refine Rk.wpAnyK_ready (rs := [5]) (by kernel_rfl) (by simp) ?_
  refine Rk.AllReadyK.cons rfl (fun KK hKK => ?_) Rk.AllReadyK.nil
  go_simp
  refine (pickInt_draw _ cb B a0 len0 cap0 HDX.out.dr w3.heap.size 8 pz HNX.out HNE.out HLX.out (by omega) (by omega)).mono ?_
  rintro e w4 ⟨⟨z, rfl, hz⟩, hw4⟩
  have HD4 := Lib.hid (HDX.out.went hw4)
  clear hw4
  dsimp only
  refine hKK.out _ _ ⟨HD4.out.x.c0, HD4.out.x.c1⟩ (fun hHeld => ?_)
  clear hKK
  try simp only [Act.put, List.setIfInBounds_toArray, List.set_cons_zero, List.set_cons_succ]
  clear hz
  refine Rk.wpAnyK_take (i := 6) (oi := { dst := some _, op := _, type := _, pos := _, after := _, guard := _ }) (v := ?_) rfl (by kernel_rfl) (by kernel_rfl) (by kernel_rfl) (by kernel_rfl) (by kernel_rfl) (fun _ _ _ h => h) ?_ (by assumption) ?_
  rotate_left 1
  focus (refine Or.inl ⟨by rfl, ?_⟩; intro wq hSw; go_simp; try with_reducible rfl)
  try simp only [Act.put, List.setIfInBounds_toArray, List.set_cons_zero, List.set_cons_succ]
  obtain ⟨z0, z1, y0, y1, zl⟩ := (show Bz w4 w.heap.size from ⟨HZ.out.box.low HD4.out.low (by have := HS0.out; omega), HZ.out.fro.low HD4.out.low (by have := HS0.out; omega)⟩).cells
  have hnb : w.heap.size ≠ b5 := by have := HD4.out.h5; have := HD4.out.hcb; have := HS0.out; omega
  refine Rk.wpAnyK_ready (rs := [7]) (by kernel_rfl) (by simp) ?_
  refine Rk.AllReadyK.cons rfl (fun KK hKK => ?_) Rk.AllReadyK.nil
  go_simp
  have hxb := (HD4.out.x.set ⟨w.heap.size, 0, none⟩ (.int .i64 now) hnb).set ⟨w.heap.size, 1, none⟩ (.slice a n cap) hnb
  refine hKK.out _ _ ⟨hxb.c0, hxb.c1⟩ (fun hHeld => ?_)
  clear hKK hxb
  try simp only [Act.put, List.setIfInBounds_toArray, List.set_cons_zero, List.set_cons_succ]
  refine Rk.wpAnyK_ready (rs := [8]) (by kernel_rfl) (by simp) ?_
  refine Rk.AllReadyK.past rfl (by kernel_rfl) (fun KK hKK => ?_) Rk.AllReadyK.nil
  go_simp
  refine hKK.out _ _ ?_
  clear hKK
  try simp only [Act.put, List.setIfInBounds_toArray, List.set_cons_zero, List.set_cons_succ]
  refine Rk.wpAnyK_done (by kernel_rfl) ?_ _
  obtain ⟨y, hy⟩ : ∃ y, y = IntKind.i64.wrap (now + z) := ⟨_, rfl⟩
  rw [← hy]
  clear hy
  have HDN := Lib.hid (fun u v => HD4.out.done (b2 := w.heap.size) HB0.out (Nat.le_refl _) (by have := HS0.out; omega) u v hn HNL.out hz0 hz1)
  go_wp2_with fail
  exact bodyPost_ret (v := .tuple #[.agg #[.int .i64 now, .slice a n cap], .int .i64 y]) (by simp [results, Tryd.results24, go_sem, z0, z1]) rfl ⟨now, a, n, cap, l, y, rfl, (HDN.out _ _).1, (HDN.out _ _).2⟩

set_option maxRecDepth 100000 in
set_option maxHeartbeats 2000000 in
theorem drawSet_draw (w : World) (B : Nat) (a0 : Option Addr) (len0 cap0 : Nat) (hcode : CodeAt B w a0 len0 cap0) (hB : B ≤ w.heap.size) :
    Calls Tryd.prog 12 #[.slice a0 len0 cap0] w fun e w' => ∃ now a n cap l x y, e = .returned (.tuple #[.agg #[.int .i64 now, .slice a n cap], .agg #[.int .i64 x, .int .i64 y]]) ∧ DwR w w' now a n cap l ∧ 0 ≤ y ∧ y ≤ 10000 ∧ Below w.heap.size w w' := by
  have hb0 : Below w.heap.size w ((w.alloc (.cells #[.int .i64 0, .slice none 0 0] 26)).alloc (.cells #[.int .i64 0, .int .i64 0] 28)) := ((Below.refl _ _).alloc (Nat.le_refl _) _).alloc (bOne _ _).size _
  have HC := Lib.hid (hcode.below (hb0.mono hB))
  have HB0 := Lib.hid hb0
  have HZ := Lib.hid ((Bz.new w).below (bOne _ (.cells #[.int .i64 0, .int .i64 0] 28)))
  have HZ3 := Lib.hid (show Bx ((w.alloc (.cells #[.int .i64 0, .slice none 0 0] 26)).alloc (.cells #[.int .i64 0, .int .i64 0] 28)) (w.heap.size + 1) (.int .i64 0) (.int .i64 0) ∧ Bf ((w.alloc (.cells #[.int .i64 0, .slice none 0 0] 26)).alloc (.cells #[.int .i64 0, .int .i64 0] 28)) (w.heap.size + 1) by
    have h1 := Bx.new (w.alloc (.cells #[.int .i64 0, .slice none 0 0] 26)) (.int .i64 0) (.int .i64 0) 28
    have h2 := Bf.new (w.alloc (.cells #[.int .i64 0, .slice none 0 0] 26)) #[.int .i64 0, .int .i64 0] 28
    simp at h1 h2
    exact ⟨h1, h2⟩)
  have HBB := Lib.hid (Nat.le_trans hB hb0.size)
  clear hcode hb0
  go_enter Tryd.func12, Tryd.ntmps12
  go_wp2_with fail
  obtain ⟨W0, hW0⟩ : ∃ W, W = (w.alloc (.cells #[.int .i64 0, .slice none 0 0] 26)).alloc (.cells #[.int .i64 0, .int .i64 0] 28) := ⟨_, rfl⟩
  rw [← hW0] at HC HB0 HZ HZ3 HBB ⊢
  have HS0 := Lib.hid (show W0.heap.size = w.heap.size + 2 by rw [hW0]; simp)
  clear hW0
  refine (new_draw _ B a0 len0 cap0 HC.out HBB.out).mono ?_
  rintro e w1 ⟨rfl, hd1, hb1, hs1⟩
  have HB1 := Lib.hid hb1
  have HS1 := Lib.hid hs1
  clear hb1 hs1
  go_wp2_with fail
  refine (odd_draw _ W0.heap.size B a0 len0 cap0 hd1).mono ?_
  rintro e w2 ⟨⟨now, a, n, cap, l, rfl, ho, hn, hnl, hz0, hz1⟩, hw2⟩
  have hds := DrS.new (W0 := W0) (now := now) HB1.out (Nat.le_refl _) HS1.out ho hw2
  have HDS := Lib.hid hds
  have HNL := Lib.hid hnl
  obtain ⟨b5, hb5⟩ : ∃ b, b = w2.heap.size := ⟨_, rfl⟩
  rw [← hb5] at HDS
  have HB5 := Lib.hid hb5
  have e0 := HDS.out.x.c0
  have e1 := HDS.out.x.c1
  obtain ⟨cb, hcb⟩ : ∃ cb, cb = W0.heap.size := ⟨_, rfl⟩
  have HDS := Lib.hid (show DrS B W0 _ cb a0 len0 cap0 b5 now a n cap l by rw [hcb]; exact hb5 ▸ hds)
  have HCB := Lib.hid hcb
  clear hd1 hds hw2 ho hnl hb5 hcb
  go_upto_region 3 with fail
  obtain ⟨w3, hw3⟩ : ∃ w3, w3 = w2.alloc (.cells #[.int .i64 now, .slice a n cap] 26) := ⟨_, rfl⟩
  rw [← HCB.out, ← HB5.out, ← hw3]
  rw [← hw3] at HDS e0 e1
  clear hw3
  have HNX := Lib.hid (show Nums (w3.drew.alloc (.cells #[.int .i64 1, .int .i64 2, .int .i64 6, .int .i64 64, .int .i64 0, .int .i64 (-1)] 3)) w3.heap.size 6 pz from nums_s1 w3.drew)
  have HBD := Lib.hid (show Below w3.heap.size w3 (w3.drew.alloc (.cells #[.int .i64 1, .int .i64 2, .int .i64 6, .int .i64 64, .int .i64 0, .int .i64 (-1)] 3)) from (below_drew' (Below.refl _ _)).alloc (Nat.le_refl _) _)
  have HD5 := Lib.hid (HDS.out.below HBD.out)
  have HNE := Lib.hid (show w3.heap.size ≠ cb by have := HDS.out.dr.cur.lt; omega)
  go_region_held3 (fun w' => w'.cell? ⟨b5, 0, none⟩ = some (.int .i64 now))
    (first
      | go_keep
      | exact hc5)
    (first | (go_at_call 40; refine (pickInt_draw _ cb B a0 len0 cap0 HD5.out.dr w3.heap.size 6 pz HNX.out HNE.out (by simp) (by omega) (by omega)).mono ?_; rintro e w5 ⟨⟨z, rfl, hz⟩, hw5⟩; have HD6 := Lib.hid (HD5.out.went hw5); have hc5 := HD6.out.x.c0))
  clear hz hc5 hw5 HNX HBD HD5 HNE e0 e1 HDS
  go_upto_region 4 with fail
  obtain ⟨x, hx⟩ : ∃ x, x = IntKind.i64.wrap (now + z) := ⟨_, rfl⟩
  rw [← hx]
  clear hx
  have HDd := Lib.hid (HD6.out.below (below_drew' (Below.refl _ _)))
  refine Rk.wp_region_K (k := 7) (S := fun w' => w'.cell? ⟨b5, 0, none⟩ = some (.int .i64 now) ∧ w'.cell? ⟨b5, 1, none⟩ = some (.slice a n cap)) (by kernel_rfl) ⟨HD6.out.x.c0, HD6.out.x.c1⟩ (fun hHeld => ?_)
  refine Rk.wpAnyK_take (i := 0) (oi := { dst := some _, op := _, type := _, pos := _, after := _, guard := _ }) (v := ?_) rfl (by kernel_rfl) (by kernel_rfl) (by kernel_rfl) (by kernel_rfl) (by kernel_rfl) (fun _ _ _ h => h) ?_ (by assumption) ?_
  rotate_left 1
  focus (refine Or.inl ⟨by rfl, ?_⟩; intro wq hSw; obtain ⟨s0, s1⟩ := hSw; go_simp; try with_reducible rfl)
  try simp only [Act.put, List.setIfInBounds_toArray, List.set_cons_zero, List.set_cons_succ]
  refine Rk.wpAnyK_take (i := 1) (oi := { dst := some _, op := _, type := _, pos := _, after := _, guard := _ }) (v := ?_) rfl (by kernel_rfl) (by kernel_rfl) (by kernel_rfl) (by kernel_rfl) (by kernel_rfl) (fun _ _ _ h => h) ?_ (by assumption) ?_
  rotate_left 1
  focus (refine Or.inl ⟨by rfl, ?_⟩; intro wq hSw; go_simp; try with_reducible rfl)
  try simp only [Act.put, List.setIfInBounds_toArray, List.set_cons_zero, List.set_cons_succ]
  refine Rk.wpAnyK_take (i := 2) (oi := { dst := some _, op := _, type := _, pos := _, after := _, guard := _ }) (v := ?_) rfl (by kernel_rfl) (by kernel_rfl) (by kernel_rfl) (by kernel_rfl) (by kernel_rfl) (fun _ _ _ h => h) ?_ (by assumption) ?_
  rotate_left 1
  focus (refine Or.inl ⟨by rfl, ?_⟩; intro wq hSw; go_simp; try with_reducible rfl)
  try simp only [Act.put, List.setIfInBounds_toArray, List.set_cons_zero, List.set_cons_succ]
  refine Rk.wpAnyK_ready (rs := [3]) (by kernel_rfl) (by simp) ?_
  refine Rk.AllReadyK.cons rfl (fun KK hKK => ?_) Rk.AllReadyK.nil
  go_simp
  have HNX := Lib.hid (show Nums (w5.drew.alloc (.cells #[.int .i64 1, .int .i64 2, .int .i64 5, .int .i64 9, .int .i64 9999, .int .i64 0, .int .i64 10000] 3)) w5.heap.size 7 py from nums_s2 w5.drew)
  have HBX := Lib.hid (show Below w5.drew.heap.size w5.drew (w5.drew.alloc (.cells #[.int .i64 1, .int .i64 2, .int .i64 5, .int .i64 9, .int .i64 9999, .int .i64 0, .int .i64 10000] 3)) from bOne _ _)
  have HDX := Lib.hid (HDd.out.below HBX.out)
  have HNE := Lib.hid (show w5.heap.size ≠ cb by have := HDd.out.dr.cur.lt; simp at this; omega)
  have HLX := Lib.hid (show w5.heap.size < (w5.drew.alloc (.cells #[.int .i64 1, .int .i64 2, .int .i64 5, .int .i64 9, .int .i64 9999, .int .i64 0, .int .i64 10000] 3)).heap.size by simp)
  refine hKK.out _ _ ⟨HDX.out.x.c0, HDX.out.x.c1⟩ (fun hHeld => ?_)
  clear hKK
  try simp only [Act.put, List.setIfInBounds_toArray, List.set_cons_zero, List.set_cons_succ]
  refine Rk.wpAnyK_ready (rs := [4]) (by kernel_rfl) (by simp) ?_
  refine Rk.AllReadyK.cons rfl (fun KK hKK => ?_) Rk.AllReadyK.nil
  go_simp
  refine (pickInt_draw _ cb B a0 len0 cap0 HDX.out.dr w5.heap.size 7 py HNX.out HNE.out HLX.out (by omega) (by omega)).mono ?_
  rintro e w6 ⟨⟨y, rfl, hy⟩, hw4⟩
  have HD4 := Lib.hid (HDX.out.went hw4)
  clear hw4
  dsimp only
  refine hKK.out _ _ ⟨HD4.out.x.c0, HD4.out.x.c1⟩ (fun hHeld => ?_)
  clear hKK
  try simp only [Act.put, List.setIfInBounds_toArray, List.set_cons_zero, List.set_cons_succ]
  unfold py at hy
  obtain ⟨hy0, hy1⟩ := hy
  refine Rk.wpAnyK_take (i := 5) (oi := { dst := some _, op := _, type := _, pos := _, after := _, guard := _ }) (v := ?_) rfl (by kernel_rfl) (by kernel_rfl) (by kernel_rfl) (by kernel_rfl) (by kernel_rfl) (fun _ _ _ h => h) ?_ (by assumption) ?_
  rotate_left 1
  focus (refine Or.inl ⟨by rfl, ?_⟩; intro wq hSw; go_simp; try with_reducible rfl)
  try simp only [Act.put, List.setIfInBounds_toArray, List.set_cons_zero, List.set_cons_succ]
  obtain ⟨z0, z1, y0, y1, zl⟩ := (show Bz w6 w.heap.size from ⟨HZ.out.box.low HD4.out.low (by have := HS0.out; omega), HZ.out.fro.low HD4.out.low (by have := HS0.out; omega)⟩).cells
  obtain ⟨⟨x0, x1, xl⟩, ⟨r0, r1⟩⟩ := (show Bx w6 (w.heap.size + 1) (.int .i64 0) (.int .i64 0) ∧ Bf w6 (w.heap.size + 1) from ⟨HZ3.out.1.low HD4.out.low (by have := HS0.out; omega), HZ3.out.2.low HD4.out.low (by have := HS0.out; omega)⟩)
  have hnb : w.heap.size ≠ b5 := by have := HD4.out.h5; have := HD4.out.hcb; have := HS0.out; omega
  refine Rk.wpAnyK_ready (rs := [6]) (by kernel_rfl) (by simp) ?_
  refine Rk.AllReadyK.cons rfl (fun KK hKK => ?_) Rk.AllReadyK.nil
  go_simp
  have hxb := (HD4.out.x.set ⟨w.heap.size, 0, none⟩ (.int .i64 now) hnb).set ⟨w.heap.size, 1, none⟩ (.slice a n cap) hnb
  refine hKK.out _ _ ⟨hxb.c0, hxb.c1⟩ (fun hHeld => ?_)
  clear hKK hxb
  try simp only [Act.put, List.setIfInBounds_toArray, List.set_cons_zero, List.set_cons_succ]
  refine Rk.wpAnyK_ready (rs := [7]) (by kernel_rfl) (by simp) ?_
  refine Rk.AllReadyK.past rfl (by kernel_rfl) (fun KK hKK => ?_) Rk.AllReadyK.nil
  go_simp
  refine hKK.out _ _ ?_
  clear hKK
  try simp only [Act.put, List.setIfInBounds_toArray, List.set_cons_zero, List.set_cons_succ]
  refine Rk.wpAnyK_done (by kernel_rfl) ?_ _
  have HDN := Lib.hid (fun u v => HD4.out.done (b2 := w.heap.size) HB0.out (Nat.le_refl _) (by have := HS0.out; omega) u v hn HNL.out hz0 hz1)
  have HW3 := Lib.hid (show w.heap.size + 1 < W0.heap.size by have := HS0.out; omega)
  go_wp2_with fail
  refine bodyPost_ret (v := .tuple #[.agg #[.int .i64 now, .slice a n cap], .agg #[.int .i64 x, .int .i64 y]]) (by simp [results, Tryd.results12, go_sem, z0, z1, x0, x1]) rfl ⟨now, a, n, cap, l, x, y, rfl, ⟨?_, hn, HNL.out, hz0, hz1⟩, hy0, hy1, ?_⟩
  · exact ((((HD4.out.own.setLow (by have := HW3.out; show w.heap.size < W0.heap.size; omega) _).setLow (by have := HW3.out; show w.heap.size < W0.heap.size; omega) _).setLow (by exact HW3.out) _).setLow (by exact HW3.out) _).base HB0.out.size
  · exact (((HDN.out _ _).2.setCell (by show w.heap.size ≤ w.heap.size + 1; omega) _).setCell (by show w.heap.size ≤ w.heap.size + 1; omega) _)
end Go.Proofs.YtkoliacbajpijaaDoor.Whl
