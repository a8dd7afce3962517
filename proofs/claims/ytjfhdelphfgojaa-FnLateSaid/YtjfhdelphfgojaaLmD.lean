/-
  The walks of the draws of a link and what stands beside it.
-/
import Derived.Test.YtjfhdelphfgojaaLmO
namespace Go.Proofs.Ytjfhdelphfgojaa.Lnk
open Go.RowKit Go.Proofs.Ytjfhdelphfgojaa.Kit Go.Proofs.Ytjfhdelphfgojaa.Draw
set_option linter.unusedVariables false
set_option linter.unusedSimpArgs false

/-- a draw under way: W0 is the world behind the boxes of its answer -/
structure DrS (B : Nat) (W0 wr : World) (cb : Nat) (a0 : Option Addr) (len0 cap0 b5 : Nat) (up : Bool) (ep sq : Int) (a : Option Addr) (n cap : Nat) (l : List Y) : Prop where
  dr : Dr B wr cb 74 a0 len0 cap0
  low : Below W0.heap.size W0 wr
  x : B4 wr b5 up ep sq (.slice a n cap)
  own : YOwn W0.heap.size wr 40 (.slice a n cap) l
  hcb : W0.heap.size ≤ cb
  h5 : cb < b5
  sep : ∀ j, (Value.slice a n cap).ownBlock = some j → cb < j
section
variable {B cb len0 cap0 b5 n cap b2 : Nat} {w W0 wr w' w1 w2 : World} {a0 a : Option Addr} {up : Bool} {ep sq : Int} {l : List Y}
theorem DrS.went (h : DrS B W0 wr cb a0 len0 cap0 b5 up ep sq a n cap l) (hw : Went B wr w' cb 74 a0 len0 cap0) : DrS B W0 w' cb a0 len0 cap0 b5 up ep sq a n cap l where
  dr := hw.dr
  low := h.low.grown hw.grown h.low.size (fun k e => by injection e with e; have := h.hcb; omega)
  x := h.x.grown hw.grown (fun e => by injection e with e; have := h.h5; omega)
  own := h.own.grown hw.grown (by
    cases hv : (Value.slice a n cap).ownBlock with
    | none => exact .inl rfl
    | some j => exact .inr (fun e => by injection e with e; have := h.sep j hv; omega))
  hcb := h.hcb
  h5 := h.h5
  sep := h.sep
theorem DrS.below (h : DrS B W0 wr cb a0 len0 cap0 b5 up ep sq a n cap l) (hb : Below wr.heap.size wr w') : DrS B W0 w' cb a0 len0 cap0 b5 up ep sq a n cap l := h.went (went_of_below h.dr hb)
theorem DrS.new (hl : Below W0.heap.size W0 w1) (hcb : W0.heap.size ≤ cb) (hs : w1.heap.size = cb + 1) (ho : YOwn w1.heap.size w2 40 (.slice a n cap) l) (hw : Went B w1 w2 cb 74 a0 len0 cap0) :
    DrS B W0 (w2.alloc (.cells #[.bool up, .int .i64 ep, .int .i64 sq, .slice a n cap] 26)) cb a0 len0 cap0 w2.heap.size up ep sq a n cap l where
  dr := (went_of_below hw.dr (bOne _ _)).dr
  low := (hl.grown hw.grown hl.size (fun k e => by injection e with e; omega)).alloc (Nat.le_trans hl.size hw.grown.size) _
  x := B4.new w2 _ _ _ _ _
  own := (ho.below (bOne _ _)).base (by omega)
  hcb := hcb
  h5 := by have := hw.grown.size; omega
  sep := fun j hj => by have := (World.ownsRow.lt ho j hj).1; omega
theorem DrS.cells (h : DrS B W0 wr cb a0 len0 cap0 b5 up ep sq a n cap l) : wr.cell? ⟨b5, 0, none⟩ = some (.bool up) ∧ wr.cell? ⟨b5, 1, none⟩ = some (.int .i64 ep) ∧ wr.cell? ⟨b5, 2, none⟩ = some (.int .i64 sq) ∧ wr.cell? ⟨b5, 3, none⟩ = some (.slice a n cap) := ⟨h.x.c0, h.x.c1, h.x.c2, h.x.c3⟩
end
/-- what a draw hands back of its link -/
structure LdR (w w' : World) (up : Bool) (ep sq : Int) (a : Option Addr) (n cap : Nat) (l : List Y) : Prop where
  own : YOwn w.heap.size w' 40 (.slice a n cap) l
  le : n ≤ 9
  len : n = l.length
  n0 : -1 ≤ ep
  n1 : ep ≤ 60001
section
variable {B cb len0 cap0 b5 n cap b2 : Nat} {w W0 wr w' w1 w2 : World} {a0 a : Option Addr} {up : Bool} {ep sq : Int} {l : List Y}
/-- the answer's box is written -/
theorem DrS.done (h : DrS B W0 wr cb a0 len0 cap0 b5 up ep sq a n cap l) (hb : Below w.heap.size w W0) (h2 : w.heap.size ≤ b2) (h3 : b2 < W0.heap.size) (x0 x1 x2 x3 : Value) (hn : n ≤ 9) (hl : n = l.length) (h0 : -1 ≤ ep) (h1 : ep ≤ 60001) :
    LdR w ((((wr.setCell ⟨b2, 0, none⟩ x0).setCell ⟨b2, 1, none⟩ x1).setCell ⟨b2, 2, none⟩ x2).setCell ⟨b2, 3, none⟩ x3) up ep sq a n cap l ∧ Below w.heap.size w ((((wr.setCell ⟨b2, 0, none⟩ x0).setCell ⟨b2, 1, none⟩ x1).setCell ⟨b2, 2, none⟩ x2).setCell ⟨b2, 3, none⟩ x3) :=
  ⟨⟨((((h.own.setLow (by exact h3) _).setLow (by exact h3) _).setLow (by exact h3) _).setLow (by exact h3) _).base hb.size, hn, hl, h0, h1⟩, ((((hb.trans (h.low.mono hb.size)).setCell (by exact h2) _).setCell (by exact h2) _).setCell (by exact h2) _).setCell (by exact h2) _⟩
/-- the same without a box of its own -/
theorem out_done (ho : YOwn w1.heap.size w2 40 (.slice a n cap) l) (hb : Below w.heap.size w w2) (h1 : w.heap.size < w1.heap.size) (x0 x1 x2 x3 : Value) (hn : n ≤ 9) (hl : n = l.length) (he0 : -1 ≤ ep) (he1 : ep ≤ 60001) :
    LdR w ((((w2.setCell ⟨w.heap.size, 0, none⟩ x0).setCell ⟨w.heap.size, 1, none⟩ x1).setCell ⟨w.heap.size, 2, none⟩ x2).setCell ⟨w.heap.size, 3, none⟩ x3) up ep sq a n cap l ∧ Below w.heap.size w ((((w2.setCell ⟨w.heap.size, 0, none⟩ x0).setCell ⟨w.heap.size, 1, none⟩ x1).setCell ⟨w.heap.size, 2, none⟩ x2).setCell ⟨w.heap.size, 3, none⟩ x3) :=
  ⟨⟨((((ho.setLow (by exact h1) _).setLow (by exact h1) _).setLow (by exact h1) _).setLow (by exact h1) _).base (Nat.le_of_lt h1), hn, hl, he0, he1⟩, (((hb.setCell (Nat.le_refl _) _).setCell (Nat.le_refl _) _).setCell (Nat.le_refl _) _).setCell (Nat.le_refl _) _⟩
end
/-- the answer's box as it was laid -/
theorem zbox {w W0 wr : World} (h : Below W0.heap.size W0 wr) (hz : B4 W0 w.heap.size false 0 0 (.slice none 0 0)) (hf : Fr W0 w.heap.size) :
    (wr.cell? ⟨w.heap.size, 0, none⟩ = some (.bool false) ∧ wr.cell? ⟨w.heap.size, 1, none⟩ = some (.int .i64 0) ∧ wr.cell? ⟨w.heap.size, 2, none⟩ = some (.int .i64 0) ∧ wr.cell? ⟨w.heap.size, 3, none⟩ = some (.slice none 0 0)) ∧
    (wr.frozen? ⟨w.heap.size, 0, none⟩ = false ∧ wr.frozen? ⟨w.heap.size, 1, none⟩ = false ∧ wr.frozen? ⟨w.heap.size, 2, none⟩ = false ∧ wr.frozen? ⟨w.heap.size, 3, none⟩ = false) ∧ w.heap.size < wr.heap.size := by
  have hb := hz.below h
  have hg := hf.low h hz.lt
  exact ⟨⟨hb.c0, hb.c1, hb.c2, hb.c3⟩, ⟨hg 0, hg 1, hg 2, hg 3⟩, hb.lt⟩
theorem nums_l : ∀ (W : World), Nums (W.alloc (.cells #[.int .i64 5, .int .i64 9, .int .i64 0, .int .i64 (-1), .int .i64 2000000000, .int .i64 2000000001] 3)) W.heap.size 6 py := fun W => nums_new W [.int .i64 5, .int .i64 9, .int .i64 0, .int .i64 (-1), .int .i64 2000000000, .int .i64 2000000001] 3 py (by
  intro v hv
  simp only [List.mem_cons, List.mem_nil_iff, or_false] at hv
  rcases hv with rfl | rfl | rfl | rfl | rfl | rfl <;> exact py_of (by omega) (by omega))

set_option maxRecDepth 100000 in
set_option maxHeartbeats 1000000 in
theorem drawJoin_draw (w : World) (B : Nat) (a0 : Option Addr) (len0 cap0 : Nat) (hcode : CodeAt B w a0 len0 cap0) (hB : B ≤ w.heap.size) :
    Calls Try.prog 33 #[.slice a0 len0 cap0] w fun e w' => ∃ (up : Bool) (ep sq : Int) (a : Option Addr) (n cap : Nat) (l : List Y), e = .returned (.agg #[.bool up, .int .i64 ep, .int .i64 sq, .slice a n cap]) ∧ LdR w w' up ep sq a n cap l ∧ Below w.heap.size w w' := by
  have hb0 := bOne w (.cells #[.bool false, .int .i64 0, .int .i64 0, .slice none 0 0] 26)
  have HC := Lib.hid (hcode.below (hb0.mono hB))
  have HB0 := Lib.hid hb0
  have HZ := Lib.hid (B4.new w false 0 0 (.slice none 0 0) 26)
  have HZF := Lib.hid (Fr.new w #[.bool false, .int .i64 0, .int .i64 0, .slice none 0 0] 26)
  have HBB := Lib.hid (Nat.le_trans hB hb0.size)
  clear hcode hb0
  go_enter Try.func33, Try.ntmps33
  go_wp2_with fail
  obtain ⟨W0, hW0⟩ : ∃ W, W = w.alloc (.cells #[.bool false, .int .i64 0, .int .i64 0, .slice none 0 0] 26) := ⟨_, rfl⟩
  rw [← hW0] at HC HB0 HZ HZF HBB ⊢
  have HS0 := Lib.hid (show W0.heap.size = w.heap.size + 1 by rw [hW0]; simp)
  clear hW0
  refine (new_draw _ B a0 len0 cap0 HC.out HBB.out).mono ?_
  rintro e w1 ⟨rfl, hd1, hb1, hs1⟩
  have HB1 := Lib.hid hb1
  have HS1 := Lib.hid hs1
  clear hb1 hs1
  go_wp2_with fail
  refine (lnkOdd_draw _ W0.heap.size B a0 len0 cap0 hd1).mono ?_
  rintro e w2 ⟨⟨up, ep, sq, a, n, cap, l, rfl, ho, hn, hnl, hz0, hz1⟩, hw2⟩
  have hlow : Below W0.heap.size W0 w2 := HB1.out.grown hw2.grown HB1.out.size (fun k e => by injection e with e; omega)
  have HLO := Lib.hid hlow
  have HO := Lib.hid ho
  have HNL := Lib.hid hnl
  obtain ⟨⟨z0, z1, z2, z3⟩, ⟨y0, y1, y2, y3⟩, zl⟩ := zbox HLO.out HZ.out HZF.out
  clear hd1 hw2 hlow ho hnl
  have HDN := Lib.hid (fun x0 x1 x2 x3 => out_done (up := up) (ep := ep) (sq := sq) HO.out (HB0.out.trans (HLO.out.mono HB0.out.size)) (by have := HS0.out; have := HS1.out; omega) x0 x1 x2 x3 hn HNL.out hz0 hz1)
  go_wp2_with fail
  exact bodyPost_ret (v := .agg #[.bool up, .int .i64 ep, .int .i64 sq, .slice a n cap]) (by simp [results, Try.results33, go_sem, z0, z1, z2, z3]) rfl ⟨up, ep, sq, a, n, cap, l, rfl, (HDN.out _ _ _ _).1, (HDN.out _ _ _ _).2⟩

set_option maxRecDepth 100000 in
set_option maxHeartbeats 1000000 in
theorem drawLeave_draw (w : World) (B : Nat) (a0 : Option Addr) (len0 cap0 : Nat) (hcode : CodeAt B w a0 len0 cap0) (hB : B ≤ w.heap.size) :
    Calls Try.prog 36 #[.slice a0 len0 cap0] w fun e w' => ∃ (up : Bool) (ep sq : Int) (a : Option Addr) (n cap : Nat) (l : List Y), e = .returned (.agg #[.bool up, .int .i64 ep, .int .i64 sq, .slice a n cap]) ∧ LdR w w' up ep sq a n cap l ∧ Below w.heap.size w w' := by
  have hb0 := bOne w (.cells #[.bool false, .int .i64 0, .int .i64 0, .slice none 0 0] 26)
  have HC := Lib.hid (hcode.below (hb0.mono hB))
  have HB0 := Lib.hid hb0
  have HZ := Lib.hid (B4.new w false 0 0 (.slice none 0 0) 26)
  have HZF := Lib.hid (Fr.new w #[.bool false, .int .i64 0, .int .i64 0, .slice none 0 0] 26)
  have HBB := Lib.hid (Nat.le_trans hB hb0.size)
  clear hcode hb0
  go_enter Try.func36, Try.ntmps36
  go_wp2_with fail
  obtain ⟨W0, hW0⟩ : ∃ W, W = w.alloc (.cells #[.bool false, .int .i64 0, .int .i64 0, .slice none 0 0] 26) := ⟨_, rfl⟩
  rw [← hW0] at HC HB0 HZ HZF HBB ⊢
  have HS0 := Lib.hid (show W0.heap.size = w.heap.size + 1 by rw [hW0]; simp)
  clear hW0
  refine (new_draw _ B a0 len0 cap0 HC.out HBB.out).mono ?_
  rintro e w1 ⟨rfl, hd1, hb1, hs1⟩
  have HB1 := Lib.hid hb1
  have HS1 := Lib.hid hs1
  clear hb1 hs1
  go_wp2_with fail
  refine (lnkOdd_draw _ W0.heap.size B a0 len0 cap0 hd1).mono ?_
  rintro e w2 ⟨⟨up, ep, sq, a, n, cap, l, rfl, ho, hn, hnl, hz0, hz1⟩, hw2⟩
  have hlow : Below W0.heap.size W0 w2 := HB1.out.grown hw2.grown HB1.out.size (fun k e => by injection e with e; omega)
  have HLO := Lib.hid hlow
  have HO := Lib.hid ho
  have HNL := Lib.hid hnl
  obtain ⟨⟨z0, z1, z2, z3⟩, ⟨y0, y1, y2, y3⟩, zl⟩ := zbox HLO.out HZ.out HZF.out
  clear hd1 hw2 hlow ho hnl
  have HDN := Lib.hid (fun x0 x1 x2 x3 => out_done (up := up) (ep := ep) (sq := sq) HO.out (HB0.out.trans (HLO.out.mono HB0.out.size)) (by have := HS0.out; have := HS1.out; omega) x0 x1 x2 x3 hn HNL.out hz0 hz1)
  go_wp2_with fail
  exact bodyPost_ret (v := .agg #[.bool up, .int .i64 ep, .int .i64 sq, .slice a n cap]) (by simp [results, Try.results36, go_sem, z0, z1, z2, z3]) rfl ⟨up, ep, sq, a, n, cap, l, rfl, (HDN.out _ _ _ _).1, (HDN.out _ _ _ _).2⟩

set_option maxRecDepth 100000 in
set_option maxHeartbeats 1000000 in
theorem drawForget_draw (w : World) (B : Nat) (a0 : Option Addr) (len0 cap0 : Nat) (hcode : CodeAt B w a0 len0 cap0) (hB : B ≤ w.heap.size) :
    Calls Try.prog 31 #[.slice a0 len0 cap0] w fun e w' => ∃ (up : Bool) (ep sq : Int) (a : Option Addr) (n cap : Nat) (l : List Y) (y : Int), e = .returned (.tuple #[.agg #[.bool up, .int .i64 ep, .int .i64 sq, .slice a n cap], .int .i64 y]) ∧ LdR w w' up ep sq a n cap l ∧ 0 ≤ y ∧ y ≤ 10 ∧ Below w.heap.size w w' := by
  have hb0 := bOne w (.cells #[.bool false, .int .i64 0, .int .i64 0, .slice none 0 0] 26)
  have HC := Lib.hid (hcode.below (hb0.mono hB))
  have HB0 := Lib.hid hb0
  have HZ := Lib.hid (B4.new w false 0 0 (.slice none 0 0) 26)
  have HZF := Lib.hid (Fr.new w #[.bool false, .int .i64 0, .int .i64 0, .slice none 0 0] 26)
  have HBB := Lib.hid (Nat.le_trans hB hb0.size)
  clear hcode hb0
  go_enter Try.func31, Try.ntmps31
  go_wp2_with fail
  obtain ⟨W0, hW0⟩ : ∃ W, W = w.alloc (.cells #[.bool false, .int .i64 0, .int .i64 0, .slice none 0 0] 26) := ⟨_, rfl⟩
  rw [← hW0] at HC HB0 HZ HZF HBB ⊢
  have HS0 := Lib.hid (show W0.heap.size = w.heap.size + 1 by rw [hW0]; simp)
  clear hW0
  refine (new_draw _ B a0 len0 cap0 HC.out HBB.out).mono ?_
  rintro e w1 ⟨rfl, hd1, hb1, hs1⟩
  have HB1 := Lib.hid hb1
  have HS1 := Lib.hid hs1
  clear hb1 hs1
  go_wp2_with fail
  refine (lnkOdd_draw _ W0.heap.size B a0 len0 cap0 hd1).mono ?_
  rintro e w2 ⟨⟨up, ep, sq, a, n, cap, l, rfl, ho, hn, hnl, hz0, hz1⟩, hw2⟩
  have hds := DrS.new (W0 := W0) (up := up) (ep := ep) (sq := sq) HB1.out (Nat.le_refl _) HS1.out ho hw2
  have HNL := Lib.hid hnl
  obtain ⟨b5, hb5⟩ : ∃ b, b = w2.heap.size := ⟨_, rfl⟩
  have HB5 := Lib.hid hb5
  obtain ⟨cb, hcb⟩ : ∃ cb, cb = W0.heap.size := ⟨_, rfl⟩
  have HDS := Lib.hid (show DrS B W0 _ cb a0 len0 cap0 b5 up ep sq a n cap l by rw [hcb]; exact hb5 ▸ hds)
  have HCB := Lib.hid hcb
  have HBE := Lib.hid (show b5 < (w2.alloc (.cells #[.bool up, .int .i64 ep, .int .i64 sq, .slice a n cap] 26)).heap.size by rw [hb5]; simp)
  obtain ⟨e0, e1, e2, e3⟩ := HDS.out.cells
  rw [hb5] at e0 e1 e2 e3
  clear hd1 hw2 ho hnl hds hb5 hcb
  go_upto_region 3 with fail
  obtain ⟨w3, hw3⟩ : ∃ w3, w3 = w2.alloc (.cells #[.bool up, .int .i64 ep, .int .i64 sq, .slice a n cap] 26) := ⟨_, rfl⟩
  rw [← HCB.out, ← HB5.out, ← hw3]
  rw [← hw3] at HDS HBE
  clear hw3 e0 e1 e2 e3
  have HDd := Lib.hid (HDS.out.below (below_drew' (Below.refl _ _)))
  refine Rk.wp_region_K (k := 3) (S := fun w' => w'.cell? ⟨b5, 0, none⟩ = some (.bool up) ∧ w'.cell? ⟨b5, 1, none⟩ = some (.int .i64 ep) ∧ w'.cell? ⟨b5, 2, none⟩ = some (.int .i64 sq) ∧ w'.cell? ⟨b5, 3, none⟩ = some (.slice a n cap)) (by kernel_rfl) HDS.out.cells (fun hHeld => ?_)
  refine Rk.wpAnyK_take (i := 0) (oi := { dst := some _, op := _, type := _, pos := _, after := _, guard := _ }) (v := ?_) rfl (by kernel_rfl) (by kernel_rfl) (by kernel_rfl) (by kernel_rfl) (by kernel_rfl) (fun _ _ _ h => h) ?_ (by assumption) ?_
  rotate_left 1
  focus (refine Or.inl ⟨by rfl, ?_⟩; intro wq hSw; obtain ⟨s0, s1, s2, s3⟩ := hSw; go_simp; try with_reducible rfl)
  try simp only [Act.put, List.setIfInBounds_toArray, List.set_cons_zero, List.set_cons_succ]
  refine Rk.wpAnyK_take (i := 1) (oi := { dst := some _, op := _, type := _, pos := _, after := _, guard := _ }) (v := ?_) rfl (by kernel_rfl) (by kernel_rfl) (by kernel_rfl) (by kernel_rfl) (by kernel_rfl) (fun _ _ _ h => h) ?_ (by assumption) ?_
  rotate_left 1
  focus (refine Or.inl ⟨by rfl, ?_⟩; intro wq hSw; go_simp; try with_reducible rfl)
  try simp only [Act.put, List.setIfInBounds_toArray, List.set_cons_zero, List.set_cons_succ]
  refine Rk.wpAnyK_ready (rs := [2]) (by kernel_rfl) (by simp) ?_
  refine Rk.AllReadyK.cons rfl (fun KK hKK => ?_) Rk.AllReadyK.nil
  go_simp
  refine (below_draw _ cb B a0 len0 cap0 HDd.out.dr 11 (by omega) (by omega)).mono ?_
  rintro e w4 ⟨⟨y, rfl, hy0, hy1⟩, hw4⟩
  have HD4 := Lib.hid (HDd.out.went hw4)
  clear hw4
  dsimp only
  refine hKK.out _ _ HD4.out.cells (fun hHeld => ?_)
  clear hKK
  try simp only [Act.put, List.setIfInBounds_toArray, List.set_cons_zero, List.set_cons_succ]
  obtain ⟨⟨z0, z1, z2, z3⟩, ⟨y0, y1, y2, y3⟩, zl⟩ := zbox HD4.out.low HZ.out HZF.out
  refine Rk.wpAnyK_ready (rs := [3]) (by kernel_rfl) (by simp) ?_
  refine Rk.AllReadyK.past rfl (by kernel_rfl) (fun KK hKK => ?_) Rk.AllReadyK.nil
  go_simp
  refine hKK.out _ _ ?_
  clear hKK
  try simp only [Act.put, List.setIfInBounds_toArray, List.set_cons_zero, List.set_cons_succ]
  refine Rk.wpAnyK_ready (rs := [4]) (by kernel_rfl) (by simp) ?_
  refine Rk.AllReadyK.past rfl (by kernel_rfl) (fun KK hKK => ?_) Rk.AllReadyK.nil
  go_simp
  refine hKK.out _ _ ?_
  clear hKK
  try simp only [Act.put, List.setIfInBounds_toArray, List.set_cons_zero, List.set_cons_succ]
  refine Rk.wpAnyK_done (by kernel_rfl) ?_ _
  have HDN := Lib.hid (fun x0 x1 x2 x3 => HD4.out.done (b2 := w.heap.size) HB0.out (Nat.le_refl _) (by have := HS0.out; omega) x0 x1 x2 x3 hn HNL.out hz0 hz1)
  go_wp2_with fail
  exact bodyPost_ret (v := .tuple #[.agg #[.bool up, .int .i64 ep, .int .i64 sq, .slice a n cap], .int .i64 y]) (by simp [results, Try.results31, go_sem, z0, z1, z2, z3]) rfl ⟨up, ep, sq, a, n, cap, l, y, rfl, (HDN.out _ _ _ _).1, by omega, by omega, (HDN.out _ _ _ _).2⟩

set_option maxRecDepth 100000 in
set_option maxHeartbeats 1000000 in
theorem drawLate_draw (w : World) (B : Nat) (a0 : Option Addr) (len0 cap0 : Nat) (hcode : CodeAt B w a0 len0 cap0) (hB : B ≤ w.heap.size) :
    Calls Try.prog 28 #[.slice a0 len0 cap0] w fun e w' => ∃ (up : Bool) (ep sq : Int) (a : Option Addr) (n cap : Nat) (l : List Y) (y : Int), e = .returned (.tuple #[.agg #[.bool up, .int .i64 ep, .int .i64 sq, .slice a n cap], .int .i64 y]) ∧ LdR w w' up ep sq a n cap l ∧ 0 ≤ y ∧ y ≤ 15 ∧ Below w.heap.size w w' := by
  have hb0 := bOne w (.cells #[.bool false, .int .i64 0, .int .i64 0, .slice none 0 0] 26)
  have HC := Lib.hid (hcode.below (hb0.mono hB))
  have HB0 := Lib.hid hb0
  have HZ := Lib.hid (B4.new w false 0 0 (.slice none 0 0) 26)
  have HZF := Lib.hid (Fr.new w #[.bool false, .int .i64 0, .int .i64 0, .slice none 0 0] 26)
  have HBB := Lib.hid (Nat.le_trans hB hb0.size)
  clear hcode hb0
  go_enter Try.func28, Try.ntmps28
  go_wp2_with fail
  obtain ⟨W0, hW0⟩ : ∃ W, W = w.alloc (.cells #[.bool false, .int .i64 0, .int .i64 0, .slice none 0 0] 26) := ⟨_, rfl⟩
  rw [← hW0] at HC HB0 HZ HZF HBB ⊢
  have HS0 := Lib.hid (show W0.heap.size = w.heap.size + 1 by rw [hW0]; simp)
  clear hW0
  refine (new_draw _ B a0 len0 cap0 HC.out HBB.out).mono ?_
  rintro e w1 ⟨rfl, hd1, hb1, hs1⟩
  have HB1 := Lib.hid hb1
  have HS1 := Lib.hid hs1
  clear hb1 hs1
  go_wp2_with fail
  refine (lnkOdd_draw _ W0.heap.size B a0 len0 cap0 hd1).mono ?_
  rintro e w2 ⟨⟨up, ep, sq, a, n, cap, l, rfl, ho, hn, hnl, hz0, hz1⟩, hw2⟩
  have hds := DrS.new (W0 := W0) (up := up) (ep := ep) (sq := sq) HB1.out (Nat.le_refl _) HS1.out ho hw2
  have HNL := Lib.hid hnl
  obtain ⟨b5, hb5⟩ : ∃ b, b = w2.heap.size := ⟨_, rfl⟩
  have HB5 := Lib.hid hb5
  obtain ⟨cb, hcb⟩ : ∃ cb, cb = W0.heap.size := ⟨_, rfl⟩
  have HDS := Lib.hid (show DrS B W0 _ cb a0 len0 cap0 b5 up ep sq a n cap l by rw [hcb]; exact hb5 ▸ hds)
  have HCB := Lib.hid hcb
  have HBE := Lib.hid (show b5 < (w2.alloc (.cells #[.bool up, .int .i64 ep, .int .i64 sq, .slice a n cap] 26)).heap.size by rw [hb5]; simp)
  obtain ⟨e0, e1, e2, e3⟩ := HDS.out.cells
  rw [hb5] at e0 e1 e2 e3
  clear hd1 hw2 ho hnl hds hb5 hcb
  go_upto_region 3 with fail
  obtain ⟨w3, hw3⟩ : ∃ w3, w3 = w2.alloc (.cells #[.bool up, .int .i64 ep, .int .i64 sq, .slice a n cap] 26) := ⟨_, rfl⟩
  rw [← HCB.out, ← HB5.out, ← hw3]
  rw [← hw3] at HDS HBE
  clear hw3 e0 e1 e2 e3
  have HDd := Lib.hid (HDS.out.below (below_drew' (Below.refl _ _)))
  refine Rk.wp_region_K (k := 3) (S := fun w' => w'.cell? ⟨b5, 0, none⟩ = some (.bool up) ∧ w'.cell? ⟨b5, 1, none⟩ = some (.int .i64 ep) ∧ w'.cell? ⟨b5, 2, none⟩ = some (.int .i64 sq) ∧ w'.cell? ⟨b5, 3, none⟩ = some (.slice a n cap)) (by kernel_rfl) HDS.out.cells (fun hHeld => ?_)
  refine Rk.wpAnyK_take (i := 0) (oi := { dst := some _, op := _, type := _, pos := _, after := _, guard := _ }) (v := ?_) rfl (by kernel_rfl) (by kernel_rfl) (by kernel_rfl) (by kernel_rfl) (by kernel_rfl) (fun _ _ _ h => h) ?_ (by assumption) ?_
  rotate_left 1
  focus (refine Or.inl ⟨by rfl, ?_⟩; intro wq hSw; obtain ⟨s0, s1, s2, s3⟩ := hSw; go_simp; try with_reducible rfl)
  try simp only [Act.put, List.setIfInBounds_toArray, List.set_cons_zero, List.set_cons_succ]
  refine Rk.wpAnyK_take (i := 1) (oi := { dst := some _, op := _, type := _, pos := _, after := _, guard := _ }) (v := ?_) rfl (by kernel_rfl) (by kernel_rfl) (by kernel_rfl) (by kernel_rfl) (by kernel_rfl) (fun _ _ _ h => h) ?_ (by assumption) ?_
  rotate_left 1
  focus (refine Or.inl ⟨by rfl, ?_⟩; intro wq hSw; go_simp; try with_reducible rfl)
  try simp only [Act.put, List.setIfInBounds_toArray, List.set_cons_zero, List.set_cons_succ]
  refine Rk.wpAnyK_ready (rs := [2]) (by kernel_rfl) (by simp) ?_
  refine Rk.AllReadyK.cons rfl (fun KK hKK => ?_) Rk.AllReadyK.nil
  go_simp
  refine (below_draw _ cb B a0 len0 cap0 HDd.out.dr 16 (by omega) (by omega)).mono ?_
  rintro e w4 ⟨⟨y, rfl, hy0, hy1⟩, hw4⟩
  have HD4 := Lib.hid (HDd.out.went hw4)
  clear hw4
  dsimp only
  refine hKK.out _ _ HD4.out.cells (fun hHeld => ?_)
  clear hKK
  try simp only [Act.put, List.setIfInBounds_toArray, List.set_cons_zero, List.set_cons_succ]
  obtain ⟨⟨z0, z1, z2, z3⟩, ⟨y0, y1, y2, y3⟩, zl⟩ := zbox HD4.out.low HZ.out HZF.out
  refine Rk.wpAnyK_ready (rs := [3]) (by kernel_rfl) (by simp) ?_
  refine Rk.AllReadyK.past rfl (by kernel_rfl) (fun KK hKK => ?_) Rk.AllReadyK.nil
  go_simp
  refine hKK.out _ _ ?_
  clear hKK
  try simp only [Act.put, List.setIfInBounds_toArray, List.set_cons_zero, List.set_cons_succ]
  refine Rk.wpAnyK_ready (rs := [4]) (by kernel_rfl) (by simp) ?_
  refine Rk.AllReadyK.past rfl (by kernel_rfl) (fun KK hKK => ?_) Rk.AllReadyK.nil
  go_simp
  refine hKK.out _ _ ?_
  clear hKK
  try simp only [Act.put, List.setIfInBounds_toArray, List.set_cons_zero, List.set_cons_succ]
  refine Rk.wpAnyK_done (by kernel_rfl) ?_ _
  have HDN := Lib.hid (fun x0 x1 x2 x3 => HD4.out.done (b2 := w.heap.size) HB0.out (Nat.le_refl _) (by have := HS0.out; omega) x0 x1 x2 x3 hn HNL.out hz0 hz1)
  go_wp2_with fail
  exact bodyPost_ret (v := .tuple #[.agg #[.bool up, .int .i64 ep, .int .i64 sq, .slice a n cap], .int .i64 y]) (by simp [results, Try.results28, go_sem, z0, z1, z2, z3]) rfl ⟨up, ep, sq, a, n, cap, l, y, rfl, (HDN.out _ _ _ _).1, by omega, by omega, (HDN.out _ _ _ _).2⟩

set_option maxRecDepth 100000 in
set_option maxHeartbeats 2000000 in
theorem drawLaunch_draw (w : World) (B : Nat) (a0 : Option Addr) (len0 cap0 : Nat) (hcode : CodeAt B w a0 len0 cap0) (hB : B ≤ w.heap.size) :
    Calls Try.prog 17 #[.slice a0 len0 cap0] w fun e w' => ∃ (up : Bool) (ep sq : Int) (a : Option Addr) (n cap : Nat) (l : List Y) (x y : Int), e = .returned (.tuple #[.agg #[.bool up, .int .i64 ep, .int .i64 sq, .slice a n cap], .int .i64 x, .int .i64 y]) ∧ LdR w w' up ep sq a n cap l ∧ Below w.heap.size w w' := by
  have hb0 := bOne w (.cells #[.bool false, .int .i64 0, .int .i64 0, .slice none 0 0] 26)
  have HC := Lib.hid (hcode.below (hb0.mono hB))
  have HB0 := Lib.hid hb0
  have HZ := Lib.hid (B4.new w false 0 0 (.slice none 0 0) 26)
  have HZF := Lib.hid (Fr.new w #[.bool false, .int .i64 0, .int .i64 0, .slice none 0 0] 26)
  have HBB := Lib.hid (Nat.le_trans hB hb0.size)
  clear hcode hb0
  go_enter Try.func17, Try.ntmps17
  go_wp2_with fail
  obtain ⟨W0, hW0⟩ : ∃ W, W = w.alloc (.cells #[.bool false, .int .i64 0, .int .i64 0, .slice none 0 0] 26) := ⟨_, rfl⟩
  rw [← hW0] at HC HB0 HZ HZF HBB ⊢
  have HS0 := Lib.hid (show W0.heap.size = w.heap.size + 1 by rw [hW0]; simp)
  clear hW0
  refine (new_draw _ B a0 len0 cap0 HC.out HBB.out).mono ?_
  rintro e w1 ⟨rfl, hd1, hb1, hs1⟩
  have HB1 := Lib.hid hb1
  have HS1 := Lib.hid hs1
  clear hb1 hs1
  go_wp2_with fail
  refine (lnkOdd_draw _ W0.heap.size B a0 len0 cap0 hd1).mono ?_
  rintro e w2 ⟨⟨up, ep, sq, a, n, cap, l, rfl, ho, hn, hnl, hz0, hz1⟩, hw2⟩
  have hds := DrS.new (W0 := W0) (up := up) (ep := ep) (sq := sq) HB1.out (Nat.le_refl _) HS1.out ho hw2
  have HNL := Lib.hid hnl
  obtain ⟨b5, hb5⟩ : ∃ b, b = w2.heap.size := ⟨_, rfl⟩
  have HB5 := Lib.hid hb5
  obtain ⟨cb, hcb⟩ : ∃ cb, cb = W0.heap.size := ⟨_, rfl⟩
  have HDS := Lib.hid (show DrS B W0 _ cb a0 len0 cap0 b5 up ep sq a n cap l by rw [hcb]; exact hb5 ▸ hds)
  have HCB := Lib.hid hcb
  have HBE := Lib.hid (show b5 < (w2.alloc (.cells #[.bool up, .int .i64 ep, .int .i64 sq, .slice a n cap] 26)).heap.size by rw [hb5]; simp)
  obtain ⟨e0, e1, e2, e3⟩ := HDS.out.cells
  rw [hb5] at e0 e1 e2 e3
  clear hd1 hw2 ho hnl hds hb5 hcb
  go_wp2_with fail
  obtain ⟨w3, hw3⟩ : ∃ w3, w3 = w2.alloc (.cells #[.bool up, .int .i64 ep, .int .i64 sq, .slice a n cap] 26) := ⟨_, rfl⟩
  rw [← HCB.out, ← HB5.out, ← hw3]
  rw [← hw3] at HDS HBE
  clear hw3 e0 e1 e2 e3
  refine (below_draw _ cb B a0 len0 cap0 HDS.out.dr 12 (by omega) (by omega)).mono ?_
  rintro e w4 ⟨⟨x, rfl, hy0, hy1⟩, hw4⟩
  have HD3 := Lib.hid (HDS.out.went hw4)
  clear hw4 hy0 hy1 HDS
  go_upto_region 4 with fail
  have HDd := Lib.hid (HD3.out.below (below_drew' (Below.refl _ _)))
  refine Rk.wp_region_K (k := 5) (S := fun w' => w'.cell? ⟨b5, 0, none⟩ = some (.bool up) ∧ w'.cell? ⟨b5, 1, none⟩ = some (.int .i64 ep) ∧ w'.cell? ⟨b5, 2, none⟩ = some (.int .i64 sq) ∧ w'.cell? ⟨b5, 3, none⟩ = some (.slice a n cap)) (by kernel_rfl) HD3.out.cells (fun hHeld => ?_)
  refine Rk.wpAnyK_take (i := 0) (oi := { dst := some _, op := _, type := _, pos := _, after := _, guard := _ }) (v := ?_) rfl (by kernel_rfl) (by kernel_rfl) (by kernel_rfl) (by kernel_rfl) (by kernel_rfl) (fun _ _ _ h => h) ?_ (by assumption) ?_
  rotate_left 1
  focus (refine Or.inl ⟨by rfl, ?_⟩; intro wq hSw; obtain ⟨s0, s1, s2, s3⟩ := hSw; go_simp; try with_reducible rfl)
  try simp only [Act.put, List.setIfInBounds_toArray, List.set_cons_zero, List.set_cons_succ]
  refine Rk.wpAnyK_free (i := 1) (oi := { dst := some _, op := _, type := _, pos := _, after := _, guard := _ }) (v := ?_) rfl (by kernel_rfl) (by kernel_rfl) (by kernel_rfl) (by kernel_rfl) (by kernel_rfl) (fun _ _ _ h => h) ?_ (fun _ => by assumption) ?_
  rotate_left 1
  focus (refine Or.inl ⟨by rfl, ?_⟩; intro wq hSw; go_simp; try with_reducible rfl)
  try simp only [Act.put, List.setIfInBounds_toArray, List.set_cons_zero, List.set_cons_succ]
  refine Rk.wpAnyK_take (i := 2) (oi := { dst := some _, op := _, type := _, pos := _, after := _, guard := _ }) (v := ?_) rfl (by kernel_rfl) (by kernel_rfl) (by kernel_rfl) (by kernel_rfl) (by kernel_rfl) (fun _ _ _ h => h) ?_ (by assumption) ?_
  rotate_left 1
  focus (refine Or.inl ⟨by rfl, ?_⟩; intro wq hSw; go_simp; try with_reducible rfl)
  try simp only [Act.put, List.setIfInBounds_toArray, List.set_cons_zero, List.set_cons_succ]
  refine Rk.wpAnyK_ready (rs := [3]) (by kernel_rfl) (by simp) ?_
  refine Rk.AllReadyK.cons rfl (fun KK hKK => ?_) Rk.AllReadyK.nil
  go_simp
  have HNX := Lib.hid (show Nums (w4.drew.alloc (.cells #[.int .i64 5, .int .i64 9, .int .i64 0, .int .i64 (-1), .int .i64 2000000000, .int .i64 2000000001] 3)) w4.heap.size 6 py from nums_l w4.drew)
  have HBX := Lib.hid (show Below w4.drew.heap.size w4.drew (w4.drew.alloc (.cells #[.int .i64 5, .int .i64 9, .int .i64 0, .int .i64 (-1), .int .i64 2000000000, .int .i64 2000000001] 3)) from bOne _ _)
  have HDX := Lib.hid (HDd.out.below HBX.out)
  have HNE := Lib.hid (show w4.heap.size ≠ cb by have := HDd.out.dr.cur.lt; simp at this; omega)
  have HLX := Lib.hid (show w4.heap.size < (w4.drew.alloc (.cells #[.int .i64 5, .int .i64 9, .int .i64 0, .int .i64 (-1), .int .i64 2000000000, .int .i64 2000000001] 3)).heap.size by simp)
  refine hKK.out _ _ HDX.out.cells (fun hHeld => ?_)
  clear hKK
  try simp only [Act.put, List.setIfInBounds_toArray, List.set_cons_zero, List.set_cons_succ]
  refine Rk.wpAnyK_ready (rs := [4]) (by kernel_rfl) (by simp) ?_
  refine Rk.AllReadyK.cons rfl (fun KK hKK => ?_) Rk.AllReadyK.nil
  go_simp
  refine (pickInt_draw _ cb B a0 len0 cap0 HDX.out.dr w4.heap.size 6 py HNX.out HNE.out HLX.out (by omega) (by omega)).mono ?_
  rintro e w6 ⟨⟨y, rfl, hy⟩, hw6⟩
  have HD4 := Lib.hid (HDX.out.went hw6)
  clear hw6 hy
  dsimp only
  refine hKK.out _ _ HD4.out.cells (fun hHeld => ?_)
  clear hKK
  try simp only [Act.put, List.setIfInBounds_toArray, List.set_cons_zero, List.set_cons_succ]
  obtain ⟨⟨z0, z1, z2, z3⟩, ⟨y0, y1, y2, y3⟩, zl⟩ := zbox HD4.out.low HZ.out HZF.out
  refine Rk.wpAnyK_ready (rs := [5]) (by kernel_rfl) (by simp) ?_
  refine Rk.AllReadyK.past rfl (by kernel_rfl) (fun KK hKK => ?_) Rk.AllReadyK.nil
  go_simp
  refine hKK.out _ _ ?_
  clear hKK
  try simp only [Act.put, List.setIfInBounds_toArray, List.set_cons_zero, List.set_cons_succ]
  refine Rk.wpAnyK_ready (rs := [6]) (by kernel_rfl) (by simp) ?_
  refine Rk.AllReadyK.past rfl (by kernel_rfl) (fun KK hKK => ?_) Rk.AllReadyK.nil
  go_simp
  refine hKK.out _ _ ?_
  clear hKK
  try simp only [Act.put, List.setIfInBounds_toArray, List.set_cons_zero, List.set_cons_succ]
  refine Rk.wpAnyK_ready (rs := [7]) (by kernel_rfl) (by simp) ?_
  refine Rk.AllReadyK.past rfl (by kernel_rfl) (fun KK hKK => ?_) Rk.AllReadyK.nil
  go_simp
  refine hKK.out _ _ ?_
  clear hKK
  try simp only [Act.put, List.setIfInBounds_toArray, List.set_cons_zero, List.set_cons_succ]
  refine Rk.wpAnyK_done (by kernel_rfl) ?_ _
  have HDN := Lib.hid (fun x0 x1 x2 x3 => HD4.out.done (b2 := w.heap.size) HB0.out (Nat.le_refl _) (by have := HS0.out; omega) x0 x1 x2 x3 hn HNL.out hz0 hz1)
  go_wp2_with fail
  exact bodyPost_ret (v := .tuple #[.agg #[.bool up, .int .i64 ep, .int .i64 sq, .slice a n cap], .int .i64 x, .int .i64 y]) (by simp [results, Try.results17, go_sem, z0, z1, z2, z3]) rfl ⟨up, ep, sq, a, n, cap, l, x, y, rfl, (HDN.out _ _ _ _).1, (HDN.out _ _ _ _).2⟩

set_option maxRecDepth 100000 in
set_option maxHeartbeats 2000000 in
theorem drawAnswer_draw (w : World) (B : Nat) (a0 : Option Addr) (len0 cap0 : Nat) (hcode : CodeAt B w a0 len0 cap0) (hB : B ≤ w.heap.size) :
    Calls Try.prog 26 #[.slice a0 len0 cap0] w fun e w' => ∃ (up : Bool) (ep sq : Int) (a : Option Addr) (n cap : Nat) (l : List Y) (x y : Int), e = .returned (.tuple #[.agg #[.bool up, .int .i64 ep, .int .i64 sq, .slice a n cap], .int .i64 x, .int .i64 y]) ∧ LdR w w' up ep sq a n cap l ∧ Below w.heap.size w w' := by
  have hb0 := bOne w (.cells #[.bool false, .int .i64 0, .int .i64 0, .slice none 0 0] 26)
  have HC := Lib.hid (hcode.below (hb0.mono hB))
  have HB0 := Lib.hid hb0
  have HZ := Lib.hid (B4.new w false 0 0 (.slice none 0 0) 26)
  have HZF := Lib.hid (Fr.new w #[.bool false, .int .i64 0, .int .i64 0, .slice none 0 0] 26)
  have HBB := Lib.hid (Nat.le_trans hB hb0.size)
  clear hcode hb0
  go_enter Try.func26, Try.ntmps26
  go_wp2_with fail
  obtain ⟨W0, hW0⟩ : ∃ W, W = w.alloc (.cells #[.bool false, .int .i64 0, .int .i64 0, .slice none 0 0] 26) := ⟨_, rfl⟩
  rw [← hW0] at HC HB0 HZ HZF HBB ⊢
  have HS0 := Lib.hid (show W0.heap.size = w.heap.size + 1 by rw [hW0]; simp)
  clear hW0
  refine (new_draw _ B a0 len0 cap0 HC.out HBB.out).mono ?_
  rintro e w1 ⟨rfl, hd1, hb1, hs1⟩
  have HB1 := Lib.hid hb1
  have HS1 := Lib.hid hs1
  clear hb1 hs1
  go_wp2_with fail
  refine (lnkOdd_draw _ W0.heap.size B a0 len0 cap0 hd1).mono ?_
  rintro e w2 ⟨⟨up, ep, sq, a, n, cap, l, rfl, ho, hn, hnl, hz0, hz1⟩, hw2⟩
  have hds := DrS.new (W0 := W0) (up := up) (ep := ep) (sq := sq) HB1.out (Nat.le_refl _) HS1.out ho hw2
  have HNL := Lib.hid hnl
  obtain ⟨b5, hb5⟩ : ∃ b, b = w2.heap.size := ⟨_, rfl⟩
  have HB5 := Lib.hid hb5
  obtain ⟨cb, hcb⟩ : ∃ cb, cb = W0.heap.size := ⟨_, rfl⟩
  have HDS := Lib.hid (show DrS B W0 _ cb a0 len0 cap0 b5 up ep sq a n cap l by rw [hcb]; exact hb5 ▸ hds)
  have HCB := Lib.hid hcb
  have HBE := Lib.hid (show b5 < (w2.alloc (.cells #[.bool up, .int .i64 ep, .int .i64 sq, .slice a n cap] 26)).heap.size by rw [hb5]; simp)
  obtain ⟨e0, e1, e2, e3⟩ := HDS.out.cells
  rw [hb5] at e0 e1 e2 e3
  clear hd1 hw2 ho hnl hds hb5 hcb
  go_wp2_with fail
  obtain ⟨w3, hw3⟩ : ∃ w3, w3 = w2.alloc (.cells #[.bool up, .int .i64 ep, .int .i64 sq, .slice a n cap] 26) := ⟨_, rfl⟩
  rw [← HCB.out, ← HB5.out, ← hw3]
  rw [← hw3] at HDS HBE
  clear hw3 e0 e1 e2 e3
  refine (once_draw _ cb B a0 len0 cap0 HDS.out.dr 4 (by omega) (by omega)).mono ?_
  rintro e w4 ⟨⟨q, rfl⟩, hw4⟩
  have HD3 := Lib.hid (HDS.out.went hw4)
  clear hw4 HDS
  cases q with
  | false =>
    go_upto_region 6 with fail
    have HDd := Lib.hid (HD3.out.below (below_drew' (Below.refl _ _)))
    refine Rk.wp_region_K (k := 4) (S := fun w' => w'.cell? ⟨b5, 0, none⟩ = some (.bool up) ∧ w'.cell? ⟨b5, 1, none⟩ = some (.int .i64 ep) ∧ w'.cell? ⟨b5, 2, none⟩ = some (.int .i64 sq) ∧ w'.cell? ⟨b5, 3, none⟩ = some (.slice a n cap)) (by kernel_rfl) HD3.out.cells (fun hHeld => ?_)
    refine Rk.wpAnyK_take (i := 0) (oi := { dst := some _, op := _, type := _, pos := _, after := _, guard := _ }) (v := ?_) rfl (by kernel_rfl) (by kernel_rfl) (by kernel_rfl) (by kernel_rfl) (by kernel_rfl) (fun _ _ _ h => h) ?_ (by assumption) ?_
    rotate_left 1
    focus (refine Or.inl ⟨by rfl, ?_⟩; intro wq hSw; obtain ⟨s0, s1, s2, s3⟩ := hSw; go_simp; try with_reducible rfl)
    try simp only [Act.put, List.setIfInBounds_toArray, List.set_cons_zero, List.set_cons_succ]
    refine Rk.wpAnyK_free (i := 1) (oi := { dst := some _, op := _, type := _, pos := _, after := _, guard := _ }) (v := ?_) rfl (by kernel_rfl) (by kernel_rfl) (by kernel_rfl) (by kernel_rfl) (by kernel_rfl) (fun _ _ _ h => h) ?_ (fun _ => by assumption) ?_
    rotate_left 1
    focus (refine Or.inl ⟨by rfl, ?_⟩; intro wq hSw; go_simp; try with_reducible rfl)
    try simp only [Act.put, List.setIfInBounds_toArray, List.set_cons_zero, List.set_cons_succ]
    refine Rk.wpAnyK_take (i := 2) (oi := { dst := some _, op := _, type := _, pos := _, after := _, guard := _ }) (v := ?_) rfl (by kernel_rfl) (by kernel_rfl) (by kernel_rfl) (by kernel_rfl) (by kernel_rfl) (fun _ _ _ h => h) ?_ (by assumption) ?_
    rotate_left 1
    focus (refine Or.inl ⟨by rfl, ?_⟩; intro wq hSw; go_simp; try with_reducible rfl)
    try simp only [Act.put, List.setIfInBounds_toArray, List.set_cons_zero, List.set_cons_succ]
    refine Rk.wpAnyK_ready (rs := [3]) (by kernel_rfl) (by simp) ?_
    refine Rk.AllReadyK.cons rfl (fun KK hKK => ?_) Rk.AllReadyK.nil
    go_simp
    refine (below_draw _ cb B a0 len0 cap0 HDd.out.dr 8 (by omega) (by omega)).mono ?_
    rintro e w7 ⟨⟨y, rfl, hy0, hy1⟩, hw4⟩
    have HD7 := Lib.hid (HDd.out.went hw4)
    clear hw4
    dsimp only
    refine hKK.out _ _ HD7.out.cells (fun hHeld => ?_)
    clear hKK
    try simp only [Act.put, List.setIfInBounds_toArray, List.set_cons_zero, List.set_cons_succ]
    obtain ⟨⟨z0, z1, z2, z3⟩, ⟨y0, y1, y2, y3⟩, zl⟩ := zbox HD7.out.low HZ.out HZF.out
    refine Rk.wpAnyK_ready (rs := [4]) (by kernel_rfl) (by simp) ?_
    refine Rk.AllReadyK.past rfl (by kernel_rfl) (fun KK hKK => ?_) Rk.AllReadyK.nil
    go_simp
    refine hKK.out _ _ ?_
    clear hKK
    try simp only [Act.put, List.setIfInBounds_toArray, List.set_cons_zero, List.set_cons_succ]
    refine Rk.wpAnyK_ready (rs := [5]) (by kernel_rfl) (by simp) ?_
    refine Rk.AllReadyK.past rfl (by kernel_rfl) (fun KK hKK => ?_) Rk.AllReadyK.nil
    go_simp
    refine hKK.out _ _ ?_
    clear hKK
    try simp only [Act.put, List.setIfInBounds_toArray, List.set_cons_zero, List.set_cons_succ]
    refine Rk.wpAnyK_ready (rs := [6]) (by kernel_rfl) (by simp) ?_
    refine Rk.AllReadyK.past rfl (by kernel_rfl) (fun KK hKK => ?_) Rk.AllReadyK.nil
    go_simp
    refine hKK.out _ _ ?_
    clear hKK
    try simp only [Act.put, List.setIfInBounds_toArray, List.set_cons_zero, List.set_cons_succ]
    refine Rk.wpAnyK_done (by kernel_rfl) ?_ _
    have HDN := Lib.hid (fun x0 x1 x2 x3 => HD7.out.done (b2 := w.heap.size) HB0.out (Nat.le_refl _) (by have := HS0.out; omega) x0 x1 x2 x3 hn HNL.out hz0 hz1)
    go_wp2_with fail
    exact bodyPost_ret (v := .tuple #[.agg #[.bool up, .int .i64 ep, .int .i64 sq, .slice a n cap], .int .i64 ep, .int .i64 y]) (by simp [results, Try.results26, go_sem, z0, z1, z2, z3]) rfl ⟨up, ep, sq, a, n, cap, l, ep, y, rfl, (HDN.out _ _ _ _).1, (HDN.out _ _ _ _).2⟩
  | true =>
    go_wp2_with fail
    refine (below_draw _ cb B a0 len0 cap0 HD3.out.dr 4 (by omega) (by omega)).mono ?_
    rintro e w5 ⟨⟨x, rfl, hx0, hx1⟩, hw5⟩
    have HD5 := Lib.hid (HD3.out.went hw5)
    clear hw5 HD3
    go_upto_region 6 with fail
    have HDd := Lib.hid (HD5.out.below (below_drew' (Below.refl _ _)))
    refine Rk.wp_region_K (k := 4) (S := fun w' => w'.cell? ⟨b5, 0, none⟩ = some (.bool up) ∧ w'.cell? ⟨b5, 1, none⟩ = some (.int .i64 ep) ∧ w'.cell? ⟨b5, 2, none⟩ = some (.int .i64 sq) ∧ w'.cell? ⟨b5, 3, none⟩ = some (.slice a n cap)) (by kernel_rfl) HD5.out.cells (fun hHeld => ?_)
    refine Rk.wpAnyK_take (i := 0) (oi := { dst := some _, op := _, type := _, pos := _, after := _, guard := _ }) (v := ?_) rfl (by kernel_rfl) (by kernel_rfl) (by kernel_rfl) (by kernel_rfl) (by kernel_rfl) (fun _ _ _ h => h) ?_ (by assumption) ?_
    rotate_left 1
    focus (refine Or.inl ⟨by rfl, ?_⟩; intro wq hSw; obtain ⟨s0, s1, s2, s3⟩ := hSw; go_simp; try with_reducible rfl)
    try simp only [Act.put, List.setIfInBounds_toArray, List.set_cons_zero, List.set_cons_succ]
    refine Rk.wpAnyK_free (i := 1) (oi := { dst := some _, op := _, type := _, pos := _, after := _, guard := _ }) (v := ?_) rfl (by kernel_rfl) (by kernel_rfl) (by kernel_rfl) (by kernel_rfl) (by kernel_rfl) (fun _ _ _ h => h) ?_ (fun _ => by assumption) ?_
    rotate_left 1
    focus (refine Or.inl ⟨by rfl, ?_⟩; intro wq hSw; go_simp; try with_reducible rfl)
    try simp only [Act.put, List.setIfInBounds_toArray, List.set_cons_zero, List.set_cons_succ]
    refine Rk.wpAnyK_take (i := 2) (oi := { dst := some _, op := _, type := _, pos := _, after := _, guard := _ }) (v := ?_) rfl (by kernel_rfl) (by kernel_rfl) (by kernel_rfl) (by kernel_rfl) (by kernel_rfl) (fun _ _ _ h => h) ?_ (by assumption) ?_
    rotate_left 1
    focus (refine Or.inl ⟨by rfl, ?_⟩; intro wq hSw; go_simp; try with_reducible rfl)
    try simp only [Act.put, List.setIfInBounds_toArray, List.set_cons_zero, List.set_cons_succ]
    refine Rk.wpAnyK_ready (rs := [3]) (by kernel_rfl) (by simp) ?_
    refine Rk.AllReadyK.cons rfl (fun KK hKK => ?_) Rk.AllReadyK.nil
    go_simp
    refine (below_draw _ cb B a0 len0 cap0 HDd.out.dr 8 (by omega) (by omega)).mono ?_
    rintro e w7 ⟨⟨y, rfl, hy0, hy1⟩, hw4⟩
    have HD7 := Lib.hid (HDd.out.went hw4)
    clear hw4
    dsimp only
    refine hKK.out _ _ HD7.out.cells (fun hHeld => ?_)
    clear hKK
    try simp only [Act.put, List.setIfInBounds_toArray, List.set_cons_zero, List.set_cons_succ]
    obtain ⟨⟨z0, z1, z2, z3⟩, ⟨y0, y1, y2, y3⟩, zl⟩ := zbox HD7.out.low HZ.out HZF.out
    refine Rk.wpAnyK_ready (rs := [4]) (by kernel_rfl) (by simp) ?_
    refine Rk.AllReadyK.past rfl (by kernel_rfl) (fun KK hKK => ?_) Rk.AllReadyK.nil
    go_simp
    refine hKK.out _ _ ?_
    clear hKK
    try simp only [Act.put, List.setIfInBounds_toArray, List.set_cons_zero, List.set_cons_succ]
    refine Rk.wpAnyK_ready (rs := [5]) (by kernel_rfl) (by simp) ?_
    refine Rk.AllReadyK.past rfl (by kernel_rfl) (fun KK hKK => ?_) Rk.AllReadyK.nil
    go_simp
    refine hKK.out _ _ ?_
    clear hKK
    try simp only [Act.put, List.setIfInBounds_toArray, List.set_cons_zero, List.set_cons_succ]
    refine Rk.wpAnyK_ready (rs := [6]) (by kernel_rfl) (by simp) ?_
    refine Rk.AllReadyK.past rfl (by kernel_rfl) (fun KK hKK => ?_) Rk.AllReadyK.nil
    go_simp
    refine hKK.out _ _ ?_
    clear hKK
    try simp only [Act.put, List.setIfInBounds_toArray, List.set_cons_zero, List.set_cons_succ]
    refine Rk.wpAnyK_done (by kernel_rfl) ?_ _
    have HDN := Lib.hid (fun x0 x1 x2 x3 => HD7.out.done (b2 := w.heap.size) HB0.out (Nat.le_refl _) (by have := HS0.out; omega) x0 x1 x2 x3 hn HNL.out hz0 hz1)
    go_wp2_with fail
    exact bodyPost_ret (v := .tuple #[.agg #[.bool up, .int .i64 ep, .int .i64 sq, .slice a n cap], .int .i64 (x - 1), .int .i64 y]) (by simp [results, Try.results26, go_sem, z0, z1, z2, z3]) rfl ⟨up, ep, sq, a, n, cap, l, (x - 1), y, rfl, (HDN.out _ _ _ _).1, (HDN.out _ _ _ _).2⟩
end Go.Proofs.Ytjfhdelphfgojaa.Lnk
