/-
  The walks of the draws of a message and what stands beside it.
-/
import Derived.Test.YtjcopkjapnieoaaEvDM
namespace Go.Proofs.Ytjcopkjapnieoaa.Evt
open Go.RowKit Go.Proofs.Ytjcopkjapnieoaa.Kit Go.Proofs.Ytjcopkjapnieoaa.Draw
set_option linter.unusedVariables false
set_option linter.unusedSimpArgs false

/-- a draw under way: its cursor, the answer's box, the message's box -/
structure Ds (B : Nat) (w0 w : World) (cb : Nat) (a0 : Option Addr) (len0 cap0 b2 b3 : Nat) (cs : Array Value) : Prop where
  dr : Dr B w cb 57 a0 len0 cap0
  low : Below w0.heap.size w0 w
  z : Hv w b2 #[.int .i64 0, .int .i64 0, .int .i64 0, .string ⟨#[]⟩, .int .i64 0, .int .i64 0, .int .i64 0, .int .i64 0, .int .i64 0]
  f : Hv w b3 cs
  g2 : w0.heap.size ≤ b2
  gc : w0.heap.size ≤ cb
  n2 : b2 ≠ cb
  n3 : b3 ≠ cb
section
variable {B : Nat} {w0 w w' : World} {cb : Nat} {a0 : Option Addr} {len0 cap0 : Nat} {b2 b3 : Nat} {cs : Array Value}
theorem Ds.draw (h : Ds B w0 w cb a0 len0 cap0 b2 b3 cs) (hw : Went B w w' cb 57 a0 len0 cap0) : Ds B w0 w' cb a0 len0 cap0 b2 b3 cs :=
  ⟨hw.dr, h.low.grown hw.grown h.low.size (fun k e => by injection e with e; have := h.gc; omega), h.z.grown hw.grown h.n2, h.f.grown hw.grown h.n3, h.g2, h.gc, h.n2, h.n3⟩
theorem Ds.step (h : Ds B w0 w cb a0 len0 cap0 b2 b3 cs) (hb : Below w.heap.size w w') : Ds B w0 w' cb a0 len0 cap0 b2 b3 cs := h.draw (went_step h.dr.refl hb)
/-- the end: the message stored whole into the answer's box -/
theorem Ds.fin (h : Ds B w0 w cb a0 len0 cap0 b2 b3 cs) (i d c : Int) (b : ByteArray) (a t r n s : Int) : Hv (((((((((w.setCell ⟨b2, 0, none⟩ (.int .i64 i)).setCell ⟨b2, 1, none⟩ (.int .i64 d)).setCell ⟨b2, 2, none⟩ (.int .i64 c)).setCell ⟨b2, 3, none⟩ (.string b)).setCell ⟨b2, 4, none⟩ (.int .i64 a)).setCell ⟨b2, 5, none⟩ (.int .i64 t)).setCell ⟨b2, 6, none⟩ (.int .i64 r)).setCell ⟨b2, 7, none⟩ (.int .i64 n)).setCell ⟨b2, 8, none⟩ (.int .i64 s)) b2 #[.int .i64 i, .int .i64 d, .int .i64 c, .string b, .int .i64 a, .int .i64 t, .int .i64 r, .int .i64 n, .int .i64 s] ∧ Below w0.heap.size w0 (((((((((w.setCell ⟨b2, 0, none⟩ (.int .i64 i)).setCell ⟨b2, 1, none⟩ (.int .i64 d)).setCell ⟨b2, 2, none⟩ (.int .i64 c)).setCell ⟨b2, 3, none⟩ (.string b)).setCell ⟨b2, 4, none⟩ (.int .i64 a)).setCell ⟨b2, 5, none⟩ (.int .i64 t)).setCell ⟨b2, 6, none⟩ (.int .i64 r)).setCell ⟨b2, 7, none⟩ (.int .i64 n)).setCell ⟨b2, 8, none⟩ (.int .i64 s)) := ⟨h.z.fin i d c b a t r n s, low_fin h.low h.g2 i d c b a t r n s⟩
end
theorem below_drewE {w w' : World} (h : Below w.heap.size w w') : Below w.heap.size w w'.drew := h.drew
/-- what a draw's second number may be -/
def PN (z : Int) : Prop := -2 ≤ z ∧ z ≤ 2000000001
theorem nums_4 (W : World) (x y u v : Int) (hx : PN x) (hy : PN y) (hu : PN u) (hv : PN v) : Nums (W.alloc (.cells #[.int .i64 x, .int .i64 y, .int .i64 u, .int .i64 v] 3)) W.heap.size 4 PN := nums_new W [.int .i64 x, .int .i64 y, .int .i64 u, .int .i64 v] 3 _ (by
  intro q hq
  simp only [List.mem_cons, List.mem_nil_iff, or_false] at hq
  rcases hq with rfl | rfl | rfl | rfl
  · exact ⟨_, rfl, hx⟩
  · exact ⟨_, rfl, hy⟩
  · exact ⟨_, rfl, hu⟩
  · exact ⟨_, rfl, hv⟩)

set_option maxRecDepth 100000 in
set_option maxHeartbeats 2000000 in
theorem drawBack_draw (w : World) (a0 : Option Addr) (len0 cap0 : Nat) (hcode : CodeAt w.heap.size w a0 len0 cap0) :
    Calls Try.prog 20 #[.slice a0 len0 cap0] w fun e w' => (∃ (i d c : Int) (b : ByteArray) (a t r n s : Int), DEv b.size a t r n s ∧ e = .returned (.agg #[.int .i64 i, .int .i64 d, .int .i64 c, .string b, .int .i64 a, .int .i64 t, .int .i64 r, .int .i64 n, .int .i64 s])) ∧ Below w.heap.size w w' := by
  have HC := Lib.hid (hcode.below (bOne w (.cells #[.int .i64 0, .int .i64 0, .int .i64 0, .string ⟨#[]⟩, .int .i64 0, .int .i64 0, .int .i64 0, .int .i64 0, .int .i64 0] 25)))
  have HZ0 := Lib.hid (Hv.new w #[.int .i64 0, .int .i64 0, .int .i64 0, .string ⟨#[]⟩, .int .i64 0, .int .i64 0, .int .i64 0, .int .i64 0, .int .i64 0])
  have HL0 := Lib.hid (bOne w (.cells #[.int .i64 0, .int .i64 0, .int .i64 0, .string ⟨#[]⟩, .int .i64 0, .int .i64 0, .int .i64 0, .int .i64 0, .int .i64 0] 25))
  have HNE := Lib.hid (show w.heap.size ≠ (w.alloc (.cells #[.int .i64 0, .int .i64 0, .int .i64 0, .string ⟨#[]⟩, .int .i64 0, .int .i64 0, .int .i64 0, .int .i64 0, .int .i64 0] 25)).heap.size by simp)
  clear hcode
  go_enter Try.func20, Try.ntmps20
  go_wp2_with fail
  refine (new_draw _ w.heap.size a0 len0 cap0 HC.out (by simp)).mono ?_
  rintro e w1 ⟨rfl, hd, hb1, hs1⟩
  have HL1 := Lib.hid (bAfter HL0.out hb1 HL0.out.size)
  have HZ1 := Lib.hid (HZ0.out.low hb1)
  have HD := Lib.hid hd
  clear hd hb1 hs1 HZ0 HC
  obtain ⟨cb, hcb⟩ : ∃ cb, cb = (w.alloc (.cells #[.int .i64 0, .int .i64 0, .int .i64 0, .string ⟨#[]⟩, .int .i64 0, .int .i64 0, .int .i64 0, .int .i64 0, .int .i64 0] 25)).heap.size := ⟨_, rfl⟩
  have HGC := Lib.hid (show w.heap.size ≤ cb by rw [hcb]; exact HL0.out.size)
  rw [← hcb] at HD HNE ⊢
  clear hcb HL0
  go_wp2_with fail
  refine (evOdd_draw _ cb w.heap.size a0 len0 cap0 HD.out HL1.out.size).mono ?_
  rintro e w2 ⟨⟨i, d, c, b, a, t, r, n, s, hde, rfl⟩, hw⟩
  have HL2 := Lib.hid (HL1.out.grown hw.grown HL1.out.size (fun k e => by injection e with e; have := HGC.out; omega))
  have HZ2 := Lib.hid (HZ1.out.grown hw.grown HNE.out)
  have HDE := Lib.hid hde
  obtain ⟨b2, hb2⟩ : ∃ b, b = w.heap.size := ⟨_, rfl⟩
  have HB2 := Lib.hid (show w.heap.size ≤ b2 by omega)
  rw [← hb2] at HZ2 ⊢
  clear hb2 hw HD HL1 HZ1 hde
  have z0 := HZ2.out.cell 0 (.int .i64 0) rfl
  have g0 := HZ2.out.frozen 0
  have z1 := HZ2.out.cell 1 (.int .i64 0) rfl
  have g1 := HZ2.out.frozen 1
  have z2 := HZ2.out.cell 2 (.int .i64 0) rfl
  have g2 := HZ2.out.frozen 2
  have z3 := HZ2.out.cell 3 (.string ⟨#[]⟩) rfl
  have g3 := HZ2.out.frozen 3
  have z4 := HZ2.out.cell 4 (.int .i64 0) rfl
  have g4 := HZ2.out.frozen 4
  have z5 := HZ2.out.cell 5 (.int .i64 0) rfl
  have g5 := HZ2.out.frozen 5
  have z6 := HZ2.out.cell 6 (.int .i64 0) rfl
  have g6 := HZ2.out.frozen 6
  have z7 := HZ2.out.cell 7 (.int .i64 0) rfl
  have g7 := HZ2.out.frozen 7
  have z8 := HZ2.out.cell 8 (.int .i64 0) rfl
  have g8 := HZ2.out.frozen 8
  go_wp2_with fail
  have HX := HZ2.out.fin i d c b a t r n s
  have HXL := low_fin HL2.out HB2.out i d c b a t r n s
  obtain ⟨X, hX⟩ : ∃ X, X = (((((((((w2.setCell ⟨b2, 0, none⟩ (.int .i64 i)).setCell ⟨b2, 1, none⟩ (.int .i64 d)).setCell ⟨b2, 2, none⟩ (.int .i64 c)).setCell ⟨b2, 3, none⟩ (.string b)).setCell ⟨b2, 4, none⟩ (.int .i64 a)).setCell ⟨b2, 5, none⟩ (.int .i64 t)).setCell ⟨b2, 6, none⟩ (.int .i64 r)).setCell ⟨b2, 7, none⟩ (.int .i64 n)).setCell ⟨b2, 8, none⟩ (.int .i64 s)) := ⟨_, rfl⟩
  rw [← hX] at HX HXL ⊢
  clear hX
  obtain ⟨x0, x1, x2, x3, x4, x5, x6, x7, x8, hlx⟩ := HX.box
  exact bodyPost_ret (v := .agg #[.int .i64 i, .int .i64 d, .int .i64 c, .string b, .int .i64 a, .int .i64 t, .int .i64 r, .int .i64 n, .int .i64 s]) (by simp [results, Try.results20, go_sem, x0, x1, x2, x3, x4, x5, x6, x7, x8]) rfl ⟨⟨_, _, _, _, _, _, _, _, _, HDE.out, rfl⟩, HXL⟩

set_option maxRecDepth 100000 in
set_option maxHeartbeats 2000000 in
theorem drawReady_draw (w : World) (a0 : Option Addr) (len0 cap0 : Nat) (hcode : CodeAt w.heap.size w a0 len0 cap0) :
    Calls Try.prog 10 #[.slice a0 len0 cap0] w fun e w' => (∃ (i d c : Int) (b : ByteArray) (a t r n s : Int) (z : Int), DEv b.size a t r n s ∧ PN z ∧ e = .returned (.tuple #[.agg #[.int .i64 i, .int .i64 d, .int .i64 c, .string b, .int .i64 a, .int .i64 t, .int .i64 r, .int .i64 n, .int .i64 s], .int .i64 z])) ∧ Below w.heap.size w w' := by
  have HC := Lib.hid (hcode.below (bOne w (.cells #[.int .i64 0, .int .i64 0, .int .i64 0, .string ⟨#[]⟩, .int .i64 0, .int .i64 0, .int .i64 0, .int .i64 0, .int .i64 0] 25)))
  have HZ0 := Lib.hid (Hv.new w #[.int .i64 0, .int .i64 0, .int .i64 0, .string ⟨#[]⟩, .int .i64 0, .int .i64 0, .int .i64 0, .int .i64 0, .int .i64 0])
  have HL0 := Lib.hid (bOne w (.cells #[.int .i64 0, .int .i64 0, .int .i64 0, .string ⟨#[]⟩, .int .i64 0, .int .i64 0, .int .i64 0, .int .i64 0, .int .i64 0] 25))
  have HNE := Lib.hid (show w.heap.size ≠ (w.alloc (.cells #[.int .i64 0, .int .i64 0, .int .i64 0, .string ⟨#[]⟩, .int .i64 0, .int .i64 0, .int .i64 0, .int .i64 0, .int .i64 0] 25)).heap.size by simp)
  clear hcode
  go_enter Try.func10, Try.ntmps10
  go_wp2_with fail
  refine (new_draw _ w.heap.size a0 len0 cap0 HC.out (by simp)).mono ?_
  rintro e w1 ⟨rfl, hd, hb1, hs1⟩
  have HL1 := Lib.hid (bAfter HL0.out hb1 HL0.out.size)
  have HZ1 := Lib.hid (HZ0.out.low hb1)
  have HD := Lib.hid hd
  clear hd hb1 hs1 HZ0 HC
  obtain ⟨cb, hcb⟩ : ∃ cb, cb = (w.alloc (.cells #[.int .i64 0, .int .i64 0, .int .i64 0, .string ⟨#[]⟩, .int .i64 0, .int .i64 0, .int .i64 0, .int .i64 0, .int .i64 0] 25)).heap.size := ⟨_, rfl⟩
  have HGC := Lib.hid (show w.heap.size ≤ cb by rw [hcb]; exact HL0.out.size)
  rw [← hcb] at HD HNE ⊢
  clear hcb HL0
  go_wp2_with fail
  refine (evOdd_draw _ cb w.heap.size a0 len0 cap0 HD.out HL1.out.size).mono ?_
  rintro e w2 ⟨⟨i, d, c, b, a, t, r, n, s, hde, rfl⟩, hw⟩
  have HDE := Lib.hid hde
  have HDS := Lib.hid (show Ds w.heap.size w (w2.alloc (.cells #[.int .i64 i, .int .i64 d, .int .i64 c, .string b, .int .i64 a, .int .i64 t, .int .i64 r, .int .i64 n, .int .i64 s] 25)) cb a0 len0 cap0 w.heap.size w2.heap.size #[.int .i64 i, .int .i64 d, .int .i64 c, .string b, .int .i64 a, .int .i64 t, .int .i64 r, .int .i64 n, .int .i64 s] from by
    have hl2 := HL1.out.grown hw.grown HL1.out.size (fun k e => by injection e with e; have := HGC.out; omega)
    have h1 := hw.grown.size
    have h2 := HD.out.cur.lt
    exact ⟨(went_step hw.dr.refl (bOne _ _)).dr, bAfter hl2 (bOne _ _) hl2.size, (HZ1.out.grown hw.grown HNE.out).low (bOne _ _), Hv.new _ _, Nat.le_refl _, HGC.out, HNE.out, by omega⟩)
  clear hde hw HD HL1 HZ1
  obtain ⟨b3, hb3⟩ : ∃ b, b = w2.heap.size := ⟨_, rfl⟩
  obtain ⟨w3, hw3⟩ : ∃ w3, w3 = w2.alloc (.cells #[.int .i64 i, .int .i64 d, .int .i64 c, .string b, .int .i64 a, .int .i64 t, .int .i64 r, .int .i64 n, .int .i64 s] 25) := ⟨_, rfl⟩
  go_upto_region 3 with fail
  rw [← hb3, ← hw3] at HDS ⊢
  clear hb3 hw3
  have HDd := Lib.hid (HDS.out.step (below_drewE (Below.refl _ _)))
  obtain ⟨hm, ha0, ha1, ht0, ht1, hr0, hr1, hn0, hn1, hs0, hs1⟩ := HDE.out
  refine Rk.wp_region_K (k := 17) (S := fun w' => w'.cell? ⟨b3, 0, none⟩ = some (.int .i64 i) ∧ w'.cell? ⟨b3, 1, none⟩ = some (.int .i64 d) ∧ w'.cell? ⟨b3, 2, none⟩ = some (.int .i64 c) ∧ w'.cell? ⟨b3, 3, none⟩ = some (.string b) ∧ w'.cell? ⟨b3, 4, none⟩ = some (.int .i64 a) ∧ w'.cell? ⟨b3, 5, none⟩ = some (.int .i64 t) ∧ w'.cell? ⟨b3, 6, none⟩ = some (.int .i64 r) ∧ w'.cell? ⟨b3, 7, none⟩ = some (.int .i64 n) ∧ w'.cell? ⟨b3, 8, none⟩ = some (.int .i64 s)) (by kernel_rfl) ⟨HDS.out.f.cell 0 (.int .i64 i) rfl, HDS.out.f.cell 1 (.int .i64 d) rfl, HDS.out.f.cell 2 (.int .i64 c) rfl, HDS.out.f.cell 3 (.string b) rfl, HDS.out.f.cell 4 (.int .i64 a) rfl, HDS.out.f.cell 5 (.int .i64 t) rfl, HDS.out.f.cell 6 (.int .i64 r) rfl, HDS.out.f.cell 7 (.int .i64 n) rfl, HDS.out.f.cell 8 (.int .i64 s) rfl⟩ (fun hHeld => ?_)
  refine Rk.wpAnyK_take (i := 0) (oi := { dst := some _, op := _, type := _, pos := _, after := _, guard := _ }) (v := ?_) rfl (by kernel_rfl) (by kernel_rfl) (by kernel_rfl) (by kernel_rfl) (by kernel_rfl) (fun _ _ _ h => h) ?_ (by assumption) ?_
  rotate_left 1
  focus (refine Or.inl ⟨by rfl, ?_⟩; intro wq hSw; obtain ⟨s0, s1, s2, s3, s4, s5, s6, s7, s8⟩ := hSw; go_simp; try with_reducible rfl)
  try simp only [Act.put, List.setIfInBounds_toArray, List.set_cons_zero, List.set_cons_succ]
  refine Rk.wpAnyK_take (i := 1) (oi := { dst := some _, op := _, type := _, pos := _, after := _, guard := _ }) (v := ?_) rfl (by kernel_rfl) (by kernel_rfl) (by kernel_rfl) (by kernel_rfl) (by kernel_rfl) (fun _ _ _ h => h) ?_ (by assumption) ?_
  rotate_left 1
  focus (refine Or.inl ⟨by rfl, ?_⟩; intro wq hSw; go_simp; try with_reducible rfl)
  try simp only [Act.put, List.setIfInBounds_toArray, List.set_cons_zero, List.set_cons_succ]
  refine Rk.wpAnyK_take (i := 2) (oi := { dst := some _, op := _, type := _, pos := _, after := _, guard := _ }) (v := ?_) rfl (by kernel_rfl) (by kernel_rfl) (by kernel_rfl) (by kernel_rfl) (by kernel_rfl) (fun _ _ _ h => h) ?_ (by assumption) ?_
  rotate_left 1
  focus (refine Or.inl ⟨by rfl, ?_⟩; intro wq hSw; go_simp; try with_reducible rfl)
  try simp only [Act.put, List.setIfInBounds_toArray, List.set_cons_zero, List.set_cons_succ]
  refine Rk.wpAnyK_take (i := 3) (oi := { dst := some _, op := _, type := _, pos := _, after := _, guard := _ }) (v := ?_) rfl (by kernel_rfl) (by kernel_rfl) (by kernel_rfl) (by kernel_rfl) (by kernel_rfl) (fun _ _ _ h => h) ?_ (by assumption) ?_
  rotate_left 1
  focus (refine Or.inl ⟨by rfl, ?_⟩; intro wq hSw; obtain ⟨s0, s1, s2, s3, s4, s5, s6, s7, s8⟩ := hSw; go_simp; try with_reducible rfl)
  try simp only [Act.put, List.setIfInBounds_toArray, List.set_cons_zero, List.set_cons_succ]
  refine Rk.wpAnyK_take (i := 4) (oi := { dst := some _, op := _, type := _, pos := _, after := _, guard := _ }) (v := ?_) rfl (by kernel_rfl) (by kernel_rfl) (by kernel_rfl) (by kernel_rfl) (by kernel_rfl) (fun _ _ _ h => h) ?_ (by assumption) ?_
  rotate_left 1
  focus (refine Or.inl ⟨by rfl, ?_⟩; intro wq hSw; go_simp; try with_reducible rfl)
  try simp only [Act.put, List.setIfInBounds_toArray, List.set_cons_zero, List.set_cons_succ]
  refine Rk.wpAnyK_take (i := 5) (oi := { dst := some _, op := _, type := _, pos := _, after := _, guard := _ }) (v := ?_) rfl (by kernel_rfl) (by kernel_rfl) (by kernel_rfl) (by kernel_rfl) (by kernel_rfl) (fun _ _ _ h => h) ?_ (by assumption) ?_
  rotate_left 1
  focus (refine Or.inl ⟨by rfl, ?_⟩; intro wq hSw; obtain ⟨s0, s1, s2, s3, s4, s5, s6, s7, s8⟩ := hSw; go_simp; try with_reducible rfl)
  try simp only [Act.put, List.setIfInBounds_toArray, List.set_cons_zero, List.set_cons_succ]
  refine Rk.wpAnyK_take (i := 6) (oi := { dst := some _, op := _, type := _, pos := _, after := _, guard := _ }) (v := ?_) rfl (by kernel_rfl) (by kernel_rfl) (by kernel_rfl) (by kernel_rfl) (by kernel_rfl) (fun _ _ _ h => h) ?_ (by assumption) ?_
  rotate_left 1
  focus (refine Or.inl ⟨by rfl, ?_⟩; intro wq hSw; go_simp; try with_reducible rfl)
  try simp only [Act.put, List.setIfInBounds_toArray, List.set_cons_zero, List.set_cons_succ]
  refine Rk.wpAnyK_take (i := 7) (oi := { dst := some _, op := _, type := _, pos := _, after := _, guard := _ }) (v := ?_) rfl (by kernel_rfl) (by kernel_rfl) (by kernel_rfl) (by kernel_rfl) (by kernel_rfl) (fun _ _ _ h => h) ?_ (by assumption) ?_
  rotate_left 1
  focus (refine Or.inl ⟨by rfl, ?_⟩; intro wq hSw; go_simp; try with_reducible rfl)
  try simp only [Act.put, List.setIfInBounds_toArray, List.set_cons_zero, List.set_cons_succ]
  refine Rk.wpAnyK_take (i := 8) (oi := { dst := some _, op := _, type := _, pos := _, after := _, guard := _ }) (v := ?_) rfl (by kernel_rfl) (by kernel_rfl) (by kernel_rfl) (by kernel_rfl) (by kernel_rfl) (fun _ _ _ h => h) ?_ (by assumption) ?_
  rotate_left 1
  focus (refine Or.inl ⟨by rfl, ?_⟩; intro wq hSw; obtain ⟨s0, s1, s2, s3, s4, s5, s6, s7, s8⟩ := hSw; go_simp; try with_reducible rfl)
  try simp only [Act.put, List.setIfInBounds_toArray, List.set_cons_zero, List.set_cons_succ]
  refine Rk.wpAnyK_take (i := 9) (oi := { dst := some _, op := _, type := _, pos := _, after := _, guard := _ }) (v := ?_) rfl (by kernel_rfl) (by kernel_rfl) (by kernel_rfl) (by kernel_rfl) (by kernel_rfl) (fun _ _ _ h => h) ?_ (by assumption) ?_
  rotate_left 1
  focus (refine Or.inl ⟨by rfl, ?_⟩; intro wq hSw; go_simp; try with_reducible rfl)
  try simp only [Act.put, List.setIfInBounds_toArray, List.set_cons_zero, List.set_cons_succ]
  refine Rk.wpAnyK_take (i := 10) (oi := { dst := some _, op := _, type := _, pos := _, after := _, guard := _ }) (v := ?_) rfl (by kernel_rfl) (by kernel_rfl) (by kernel_rfl) (by kernel_rfl) (by kernel_rfl) (fun _ _ _ h => h) ?_ (by assumption) ?_
  rotate_left 1
  focus (refine Or.inl ⟨by rfl, ?_⟩; intro wq hSw; obtain ⟨s0, s1, s2, s3, s4, s5, s6, s7, s8⟩ := hSw; go_simp; try with_reducible rfl)
  try simp only [Act.put, List.setIfInBounds_toArray, List.set_cons_zero, List.set_cons_succ]
  refine Rk.wpAnyK_take (i := 11) (oi := { dst := some _, op := _, type := _, pos := _, after := _, guard := _ }) (v := ?_) rfl (by kernel_rfl) (by kernel_rfl) (by kernel_rfl) (by kernel_rfl) (by kernel_rfl) (fun _ _ _ h => h) ?_ (by assumption) ?_
  rotate_left 1
  focus (refine Or.inl ⟨by rfl, ?_⟩; intro wq hSw; go_simp; try with_reducible rfl)
  try simp only [Act.put, List.setIfInBounds_toArray, List.set_cons_zero, List.set_cons_succ]
  refine Rk.wpAnyK_take (i := 12) (oi := { dst := some _, op := _, type := _, pos := _, after := _, guard := _ }) (v := ?_) rfl (by kernel_rfl) (by kernel_rfl) (by kernel_rfl) (by kernel_rfl) (by kernel_rfl) (fun _ _ _ h => h) ?_ (by assumption) ?_
  rotate_left 1
  focus (refine Or.inl ⟨by rfl, ?_⟩; intro wq hSw; go_simp; try with_reducible rfl)
  try simp only [Act.put, List.setIfInBounds_toArray, List.set_cons_zero, List.set_cons_succ]
  refine Rk.wpAnyK_take (i := 13) (oi := { dst := some _, op := _, type := _, pos := _, after := _, guard := _ }) (v := ?_) rfl (by kernel_rfl) (by kernel_rfl) (by kernel_rfl) (by kernel_rfl) (by kernel_rfl) (fun _ _ _ h => h) ?_ (by assumption) ?_
  rotate_left 1
  focus (refine Or.inl ⟨by rfl, ?_⟩; intro wq hSw; go_simp; try with_reducible rfl)
  try simp only [Act.put, List.setIfInBounds_toArray, List.set_cons_zero, List.set_cons_succ]
  have hwr0 : IntKind.i64.wrap (n - 1) = n - 1 := IntWalk.i64_in _ (by omega)
  have hwr1 : IntKind.i64.wrap (a + t) = a + t := IntWalk.i64_in _ (by omega)
  have hwr2 : IntKind.i64.wrap (a + t - 1) = a + t - 1 := IntWalk.i64_in _ (by omega)
  simp only [hwr0, hwr1, hwr2]
  refine Rk.wpAnyK_ready (rs := [14]) (by kernel_rfl) (by simp) ?_
  refine Rk.AllReadyK.cons rfl (fun KK hKK => ?_) Rk.AllReadyK.nil
  go_simp
  refine (below_draw _ cb w.heap.size a0 len0 cap0 HDd.out.dr 60 (by omega) (by omega)).mono ?_
  rintro e w4 ⟨⟨y, rfl, hy0, hy1⟩, hw4⟩
  have HD4 := Lib.hid (HDd.out.draw hw4)
  clear hw4
  dsimp only
  refine hKK.out _ _ ⟨HD4.out.f.cell 0 (.int .i64 i) rfl, HD4.out.f.cell 1 (.int .i64 d) rfl, HD4.out.f.cell 2 (.int .i64 c) rfl, HD4.out.f.cell 3 (.string b) rfl, HD4.out.f.cell 4 (.int .i64 a) rfl, HD4.out.f.cell 5 (.int .i64 t) rfl, HD4.out.f.cell 6 (.int .i64 r) rfl, HD4.out.f.cell 7 (.int .i64 n) rfl, HD4.out.f.cell 8 (.int .i64 s) rfl⟩ (fun hHeld => ?_)
  clear hKK
  try simp only [Act.put, List.setIfInBounds_toArray, List.set_cons_zero, List.set_cons_succ]
  refine Rk.wpAnyK_ready (rs := [15]) (by kernel_rfl) (by simp) ?_
  refine Rk.AllReadyK.cons rfl (fun KK hKK => ?_) Rk.AllReadyK.nil
  go_simp
  have HDX := Lib.hid (HD4.out.step (bOne w4 (.cells #[.int .i64 n, .int .i64 (n - 1), .int .i64 (a + t - 1), .int .i64 y] 3)))
  have HNE4 := Lib.hid (show w4.heap.size ≠ cb by have := HD4.out.dr.cur.lt; omega)
  refine hKK.out _ _ ⟨HDX.out.f.cell 0 (.int .i64 i) rfl, HDX.out.f.cell 1 (.int .i64 d) rfl, HDX.out.f.cell 2 (.int .i64 c) rfl, HDX.out.f.cell 3 (.string b) rfl, HDX.out.f.cell 4 (.int .i64 a) rfl, HDX.out.f.cell 5 (.int .i64 t) rfl, HDX.out.f.cell 6 (.int .i64 r) rfl, HDX.out.f.cell 7 (.int .i64 n) rfl, HDX.out.f.cell 8 (.int .i64 s) rfl⟩ (fun hHeld => ?_)
  clear hKK
  try simp only [Act.put, List.setIfInBounds_toArray, List.set_cons_zero, List.set_cons_succ]
  refine Rk.wpAnyK_ready (rs := [16]) (by kernel_rfl) (by simp) ?_
  refine Rk.AllReadyK.cons rfl (fun KK hKK => ?_) Rk.AllReadyK.nil
  go_simp
  refine (pickInt_draw _ cb w.heap.size a0 len0 cap0 HDX.out.dr w4.heap.size 4 PN (nums_4 w4 (n) ((n - 1)) ((a + t - 1)) (y) (by unfold PN; omega) (by unfold PN; omega) (by unfold PN; omega) (by unfold PN; omega)) HNE4.out (by simp) (by omega) (by omega)).mono ?_
  rintro e w6 ⟨⟨z, rfl, hz⟩, hw6⟩
  have HD6 := Lib.hid (HDX.out.draw hw6)
  have HPZ := Lib.hid hz
  clear hw6 hz HDX HD4
  dsimp only
  refine hKK.out _ _ ⟨HD6.out.f.cell 0 (.int .i64 i) rfl, HD6.out.f.cell 1 (.int .i64 d) rfl, HD6.out.f.cell 2 (.int .i64 c) rfl, HD6.out.f.cell 3 (.string b) rfl, HD6.out.f.cell 4 (.int .i64 a) rfl, HD6.out.f.cell 5 (.int .i64 t) rfl, HD6.out.f.cell 6 (.int .i64 r) rfl, HD6.out.f.cell 7 (.int .i64 n) rfl, HD6.out.f.cell 8 (.int .i64 s) rfl⟩ (fun hHeld => ?_)
  clear hKK
  try simp only [Act.put, List.setIfInBounds_toArray, List.set_cons_zero, List.set_cons_succ]
  have z0 := HD6.out.z.cell 0 (.int .i64 0) rfl
  have g0 := HD6.out.z.frozen 0
  have z1 := HD6.out.z.cell 1 (.int .i64 0) rfl
  have g1 := HD6.out.z.frozen 1
  have z2 := HD6.out.z.cell 2 (.int .i64 0) rfl
  have g2 := HD6.out.z.frozen 2
  have z3 := HD6.out.z.cell 3 (.string ⟨#[]⟩) rfl
  have g3 := HD6.out.z.frozen 3
  have z4 := HD6.out.z.cell 4 (.int .i64 0) rfl
  have g4 := HD6.out.z.frozen 4
  have z5 := HD6.out.z.cell 5 (.int .i64 0) rfl
  have g5 := HD6.out.z.frozen 5
  have z6 := HD6.out.z.cell 6 (.int .i64 0) rfl
  have g6 := HD6.out.z.frozen 6
  have z7 := HD6.out.z.cell 7 (.int .i64 0) rfl
  have g7 := HD6.out.z.frozen 7
  have z8 := HD6.out.z.cell 8 (.int .i64 0) rfl
  have g8 := HD6.out.z.frozen 8
  refine Rk.wpAnyK_ready (rs := [17]) (by kernel_rfl) (by simp) ?_
  refine Rk.AllReadyK.past rfl (by kernel_rfl) (fun KK hKK => ?_) Rk.AllReadyK.nil
  go_simp
  refine hKK.out _ _ ?_
  clear hKK
  try simp only [Act.put, List.setIfInBounds_toArray, List.set_cons_zero, List.set_cons_succ]
  refine Rk.wpAnyK_ready (rs := [18]) (by kernel_rfl) (by simp) ?_
  refine Rk.AllReadyK.past rfl (by kernel_rfl) (fun KK hKK => ?_) Rk.AllReadyK.nil
  go_simp
  refine hKK.out _ _ ?_
  clear hKK
  try simp only [Act.put, List.setIfInBounds_toArray, List.set_cons_zero, List.set_cons_succ]
  refine Rk.wpAnyK_done (by kernel_rfl) ?_ _
  have hfin := HD6.out.fin i d c b a t r n s
  go_wp2_with fail
  obtain ⟨X, hX⟩ : ∃ X, X = (((((((((w6.setCell ⟨w.heap.size, 0, none⟩ (.int .i64 i)).setCell ⟨w.heap.size, 1, none⟩ (.int .i64 d)).setCell ⟨w.heap.size, 2, none⟩ (.int .i64 c)).setCell ⟨w.heap.size, 3, none⟩ (.string b)).setCell ⟨w.heap.size, 4, none⟩ (.int .i64 a)).setCell ⟨w.heap.size, 5, none⟩ (.int .i64 t)).setCell ⟨w.heap.size, 6, none⟩ (.int .i64 r)).setCell ⟨w.heap.size, 7, none⟩ (.int .i64 n)).setCell ⟨w.heap.size, 8, none⟩ (.int .i64 s)) := ⟨_, rfl⟩
  rw [← hX] at hfin ⊢
  clear hX
  obtain ⟨hfx, hlx⟩ := hfin
  obtain ⟨x0, x1, x2, x3, x4, x5, x6, x7, x8, hlt⟩ := hfx.box
  exact bodyPost_ret (v := .tuple #[.agg #[.int .i64 i, .int .i64 d, .int .i64 c, .string b, .int .i64 a, .int .i64 t, .int .i64 r, .int .i64 n, .int .i64 s], .int .i64 z]) (by simp [results, Try.results10, go_sem, x0, x1, x2, x3, x4, x5, x6, x7, x8]) rfl ⟨⟨_, _, _, _, _, _, _, _, _, _, HDE.out, HPZ.out, rfl⟩, hlx⟩

set_option maxRecDepth 100000 in
set_option maxHeartbeats 2000000 in
theorem drawOld_draw (w : World) (a0 : Option Addr) (len0 cap0 : Nat) (hcode : CodeAt w.heap.size w a0 len0 cap0) :
    Calls Try.prog 11 #[.slice a0 len0 cap0] w fun e w' => (∃ (i d c : Int) (b : ByteArray) (a t r n s : Int) (z : Int), DEv b.size a t r n s ∧ PN z ∧ e = .returned (.tuple #[.agg #[.int .i64 i, .int .i64 d, .int .i64 c, .string b, .int .i64 a, .int .i64 t, .int .i64 r, .int .i64 n, .int .i64 s], .int .i64 z])) ∧ Below w.heap.size w w' := by
  have HC := Lib.hid (hcode.below (bOne w (.cells #[.int .i64 0, .int .i64 0, .int .i64 0, .string ⟨#[]⟩, .int .i64 0, .int .i64 0, .int .i64 0, .int .i64 0, .int .i64 0] 25)))
  have HZ0 := Lib.hid (Hv.new w #[.int .i64 0, .int .i64 0, .int .i64 0, .string ⟨#[]⟩, .int .i64 0, .int .i64 0, .int .i64 0, .int .i64 0, .int .i64 0])
  have HL0 := Lib.hid (bOne w (.cells #[.int .i64 0, .int .i64 0, .int .i64 0, .string ⟨#[]⟩, .int .i64 0, .int .i64 0, .int .i64 0, .int .i64 0, .int .i64 0] 25))
  have HNE := Lib.hid (show w.heap.size ≠ (w.alloc (.cells #[.int .i64 0, .int .i64 0, .int .i64 0, .string ⟨#[]⟩, .int .i64 0, .int .i64 0, .int .i64 0, .int .i64 0, .int .i64 0] 25)).heap.size by simp)
  clear hcode
  go_enter Try.func11, Try.ntmps11
  go_wp2_with fail
  refine (new_draw _ w.heap.size a0 len0 cap0 HC.out (by simp)).mono ?_
  rintro e w1 ⟨rfl, hd, hb1, hs1⟩
  have HL1 := Lib.hid (bAfter HL0.out hb1 HL0.out.size)
  have HZ1 := Lib.hid (HZ0.out.low hb1)
  have HD := Lib.hid hd
  clear hd hb1 hs1 HZ0 HC
  obtain ⟨cb, hcb⟩ : ∃ cb, cb = (w.alloc (.cells #[.int .i64 0, .int .i64 0, .int .i64 0, .string ⟨#[]⟩, .int .i64 0, .int .i64 0, .int .i64 0, .int .i64 0, .int .i64 0] 25)).heap.size := ⟨_, rfl⟩
  have HGC := Lib.hid (show w.heap.size ≤ cb by rw [hcb]; exact HL0.out.size)
  rw [← hcb] at HD HNE ⊢
  clear hcb HL0
  go_wp2_with fail
  refine (evOdd_draw _ cb w.heap.size a0 len0 cap0 HD.out HL1.out.size).mono ?_
  rintro e w2 ⟨⟨i, d, c, b, a, t, r, n, s, hde, rfl⟩, hw⟩
  have HDE := Lib.hid hde
  have HDS := Lib.hid (show Ds w.heap.size w (w2.alloc (.cells #[.int .i64 i, .int .i64 d, .int .i64 c, .string b, .int .i64 a, .int .i64 t, .int .i64 r, .int .i64 n, .int .i64 s] 25)) cb a0 len0 cap0 w.heap.size w2.heap.size #[.int .i64 i, .int .i64 d, .int .i64 c, .string b, .int .i64 a, .int .i64 t, .int .i64 r, .int .i64 n, .int .i64 s] from by
    have hl2 := HL1.out.grown hw.grown HL1.out.size (fun k e => by injection e with e; have := HGC.out; omega)
    have h1 := hw.grown.size
    have h2 := HD.out.cur.lt
    exact ⟨(went_step hw.dr.refl (bOne _ _)).dr, bAfter hl2 (bOne _ _) hl2.size, (HZ1.out.grown hw.grown HNE.out).low (bOne _ _), Hv.new _ _, Nat.le_refl _, HGC.out, HNE.out, by omega⟩)
  clear hde hw HD HL1 HZ1
  obtain ⟨b3, hb3⟩ : ∃ b, b = w2.heap.size := ⟨_, rfl⟩
  obtain ⟨w3, hw3⟩ : ∃ w3, w3 = w2.alloc (.cells #[.int .i64 i, .int .i64 d, .int .i64 c, .string b, .int .i64 a, .int .i64 t, .int .i64 r, .int .i64 n, .int .i64 s] 25) := ⟨_, rfl⟩
  go_upto_region 3 with fail
  rw [← hb3, ← hw3] at HDS ⊢
  clear hb3 hw3
  have HDd := Lib.hid (HDS.out.step (below_drewE (Below.refl _ _)))
  obtain ⟨hm, ha0, ha1, ht0, ht1, hr0, hr1, hn0, hn1, hs0, hs1⟩ := HDE.out
  refine Rk.wp_region_K (k := 19) (S := fun w' => w'.cell? ⟨b3, 0, none⟩ = some (.int .i64 i) ∧ w'.cell? ⟨b3, 1, none⟩ = some (.int .i64 d) ∧ w'.cell? ⟨b3, 2, none⟩ = some (.int .i64 c) ∧ w'.cell? ⟨b3, 3, none⟩ = some (.string b) ∧ w'.cell? ⟨b3, 4, none⟩ = some (.int .i64 a) ∧ w'.cell? ⟨b3, 5, none⟩ = some (.int .i64 t) ∧ w'.cell? ⟨b3, 6, none⟩ = some (.int .i64 r) ∧ w'.cell? ⟨b3, 7, none⟩ = some (.int .i64 n) ∧ w'.cell? ⟨b3, 8, none⟩ = some (.int .i64 s)) (by kernel_rfl) ⟨HDS.out.f.cell 0 (.int .i64 i) rfl, HDS.out.f.cell 1 (.int .i64 d) rfl, HDS.out.f.cell 2 (.int .i64 c) rfl, HDS.out.f.cell 3 (.string b) rfl, HDS.out.f.cell 4 (.int .i64 a) rfl, HDS.out.f.cell 5 (.int .i64 t) rfl, HDS.out.f.cell 6 (.int .i64 r) rfl, HDS.out.f.cell 7 (.int .i64 n) rfl, HDS.out.f.cell 8 (.int .i64 s) rfl⟩ (fun hHeld => ?_)
  refine Rk.wpAnyK_take (i := 0) (oi := { dst := some _, op := _, type := _, pos := _, after := _, guard := _ }) (v := ?_) rfl (by kernel_rfl) (by kernel_rfl) (by kernel_rfl) (by kernel_rfl) (by kernel_rfl) (fun _ _ _ h => h) ?_ (by assumption) ?_
  rotate_left 1
  focus (refine Or.inl ⟨by rfl, ?_⟩; intro wq hSw; obtain ⟨s0, s1, s2, s3, s4, s5, s6, s7, s8⟩ := hSw; go_simp; try with_reducible rfl)
  try simp only [Act.put, List.setIfInBounds_toArray, List.set_cons_zero, List.set_cons_succ]
  refine Rk.wpAnyK_take (i := 1) (oi := { dst := some _, op := _, type := _, pos := _, after := _, guard := _ }) (v := ?_) rfl (by kernel_rfl) (by kernel_rfl) (by kernel_rfl) (by kernel_rfl) (by kernel_rfl) (fun _ _ _ h => h) ?_ (by assumption) ?_
  rotate_left 1
  focus (refine Or.inl ⟨by rfl, ?_⟩; intro wq hSw; go_simp; try with_reducible rfl)
  try simp only [Act.put, List.setIfInBounds_toArray, List.set_cons_zero, List.set_cons_succ]
  refine Rk.wpAnyK_take (i := 2) (oi := { dst := some _, op := _, type := _, pos := _, after := _, guard := _ }) (v := ?_) rfl (by kernel_rfl) (by kernel_rfl) (by kernel_rfl) (by kernel_rfl) (by kernel_rfl) (fun _ _ _ h => h) ?_ (by assumption) ?_
  rotate_left 1
  focus (refine Or.inl ⟨by rfl, ?_⟩; intro wq hSw; go_simp; try with_reducible rfl)
  try simp only [Act.put, List.setIfInBounds_toArray, List.set_cons_zero, List.set_cons_succ]
  refine Rk.wpAnyK_take (i := 3) (oi := { dst := some _, op := _, type := _, pos := _, after := _, guard := _ }) (v := ?_) rfl (by kernel_rfl) (by kernel_rfl) (by kernel_rfl) (by kernel_rfl) (by kernel_rfl) (fun _ _ _ h => h) ?_ (by assumption) ?_
  rotate_left 1
  focus (refine Or.inl ⟨by rfl, ?_⟩; intro wq hSw; obtain ⟨s0, s1, s2, s3, s4, s5, s6, s7, s8⟩ := hSw; go_simp; try with_reducible rfl)
  try simp only [Act.put, List.setIfInBounds_toArray, List.set_cons_zero, List.set_cons_succ]
  refine Rk.wpAnyK_take (i := 4) (oi := { dst := some _, op := _, type := _, pos := _, after := _, guard := _ }) (v := ?_) rfl (by kernel_rfl) (by kernel_rfl) (by kernel_rfl) (by kernel_rfl) (by kernel_rfl) (fun _ _ _ h => h) ?_ (by assumption) ?_
  rotate_left 1
  focus (refine Or.inl ⟨by rfl, ?_⟩; intro wq hSw; go_simp; try with_reducible rfl)
  try simp only [Act.put, List.setIfInBounds_toArray, List.set_cons_zero, List.set_cons_succ]
  refine Rk.wpAnyK_take (i := 5) (oi := { dst := some _, op := _, type := _, pos := _, after := _, guard := _ }) (v := ?_) rfl (by kernel_rfl) (by kernel_rfl) (by kernel_rfl) (by kernel_rfl) (by kernel_rfl) (fun _ _ _ h => h) ?_ (by assumption) ?_
  rotate_left 1
  focus (refine Or.inl ⟨by rfl, ?_⟩; intro wq hSw; obtain ⟨s0, s1, s2, s3, s4, s5, s6, s7, s8⟩ := hSw; go_simp; try with_reducible rfl)
  try simp only [Act.put, List.setIfInBounds_toArray, List.set_cons_zero, List.set_cons_succ]
  refine Rk.wpAnyK_take (i := 6) (oi := { dst := some _, op := _, type := _, pos := _, after := _, guard := _ }) (v := ?_) rfl (by kernel_rfl) (by kernel_rfl) (by kernel_rfl) (by kernel_rfl) (by kernel_rfl) (fun _ _ _ h => h) ?_ (by assumption) ?_
  rotate_left 1
  focus (refine Or.inl ⟨by rfl, ?_⟩; intro wq hSw; go_simp; try with_reducible rfl)
  try simp only [Act.put, List.setIfInBounds_toArray, List.set_cons_zero, List.set_cons_succ]
  refine Rk.wpAnyK_take (i := 7) (oi := { dst := some _, op := _, type := _, pos := _, after := _, guard := _ }) (v := ?_) rfl (by kernel_rfl) (by kernel_rfl) (by kernel_rfl) (by kernel_rfl) (by kernel_rfl) (fun _ _ _ h => h) ?_ (by assumption) ?_
  rotate_left 1
  focus (refine Or.inl ⟨by rfl, ?_⟩; intro wq hSw; obtain ⟨s0, s1, s2, s3, s4, s5, s6, s7, s8⟩ := hSw; go_simp; try with_reducible rfl)
  try simp only [Act.put, List.setIfInBounds_toArray, List.set_cons_zero, List.set_cons_succ]
  refine Rk.wpAnyK_take (i := 8) (oi := { dst := some _, op := _, type := _, pos := _, after := _, guard := _ }) (v := ?_) rfl (by kernel_rfl) (by kernel_rfl) (by kernel_rfl) (by kernel_rfl) (by kernel_rfl) (fun _ _ _ h => h) ?_ (by assumption) ?_
  rotate_left 1
  focus (refine Or.inl ⟨by rfl, ?_⟩; intro wq hSw; go_simp; try with_reducible rfl)
  try simp only [Act.put, List.setIfInBounds_toArray, List.set_cons_zero, List.set_cons_succ]
  refine Rk.wpAnyK_take (i := 9) (oi := { dst := some _, op := _, type := _, pos := _, after := _, guard := _ }) (v := ?_) rfl (by kernel_rfl) (by kernel_rfl) (by kernel_rfl) (by kernel_rfl) (by kernel_rfl) (fun _ _ _ h => h) ?_ (by assumption) ?_
  rotate_left 1
  focus (refine Or.inl ⟨by rfl, ?_⟩; intro wq hSw; go_simp; try with_reducible rfl)
  try simp only [Act.put, List.setIfInBounds_toArray, List.set_cons_zero, List.set_cons_succ]
  refine Rk.wpAnyK_take (i := 10) (oi := { dst := some _, op := _, type := _, pos := _, after := _, guard := _ }) (v := ?_) rfl (by kernel_rfl) (by kernel_rfl) (by kernel_rfl) (by kernel_rfl) (by kernel_rfl) (fun _ _ _ h => h) ?_ (by assumption) ?_
  rotate_left 1
  focus (refine Or.inl ⟨by rfl, ?_⟩; intro wq hSw; obtain ⟨s0, s1, s2, s3, s4, s5, s6, s7, s8⟩ := hSw; go_simp; try with_reducible rfl)
  try simp only [Act.put, List.setIfInBounds_toArray, List.set_cons_zero, List.set_cons_succ]
  refine Rk.wpAnyK_take (i := 11) (oi := { dst := some _, op := _, type := _, pos := _, after := _, guard := _ }) (v := ?_) rfl (by kernel_rfl) (by kernel_rfl) (by kernel_rfl) (by kernel_rfl) (by kernel_rfl) (fun _ _ _ h => h) ?_ (by assumption) ?_
  rotate_left 1
  focus (refine Or.inl ⟨by rfl, ?_⟩; intro wq hSw; go_simp; try with_reducible rfl)
  try simp only [Act.put, List.setIfInBounds_toArray, List.set_cons_zero, List.set_cons_succ]
  refine Rk.wpAnyK_take (i := 12) (oi := { dst := some _, op := _, type := _, pos := _, after := _, guard := _ }) (v := ?_) rfl (by kernel_rfl) (by kernel_rfl) (by kernel_rfl) (by kernel_rfl) (by kernel_rfl) (fun _ _ _ h => h) ?_ (by assumption) ?_
  rotate_left 1
  focus (refine Or.inl ⟨by rfl, ?_⟩; intro wq hSw; obtain ⟨s0, s1, s2, s3, s4, s5, s6, s7, s8⟩ := hSw; go_simp; try with_reducible rfl)
  try simp only [Act.put, List.setIfInBounds_toArray, List.set_cons_zero, List.set_cons_succ]
  refine Rk.wpAnyK_take (i := 13) (oi := { dst := some _, op := _, type := _, pos := _, after := _, guard := _ }) (v := ?_) rfl (by kernel_rfl) (by kernel_rfl) (by kernel_rfl) (by kernel_rfl) (by kernel_rfl) (fun _ _ _ h => h) ?_ (by assumption) ?_
  rotate_left 1
  focus (refine Or.inl ⟨by rfl, ?_⟩; intro wq hSw; go_simp; try with_reducible rfl)
  try simp only [Act.put, List.setIfInBounds_toArray, List.set_cons_zero, List.set_cons_succ]
  refine Rk.wpAnyK_take (i := 14) (oi := { dst := some _, op := _, type := _, pos := _, after := _, guard := _ }) (v := ?_) rfl (by kernel_rfl) (by kernel_rfl) (by kernel_rfl) (by kernel_rfl) (by kernel_rfl) (fun _ _ _ h => h) ?_ (by assumption) ?_
  rotate_left 1
  focus (refine Or.inl ⟨by rfl, ?_⟩; intro wq hSw; go_simp; try with_reducible rfl)
  try simp only [Act.put, List.setIfInBounds_toArray, List.set_cons_zero, List.set_cons_succ]
  refine Rk.wpAnyK_take (i := 15) (oi := { dst := some _, op := _, type := _, pos := _, after := _, guard := _ }) (v := ?_) rfl (by kernel_rfl) (by kernel_rfl) (by kernel_rfl) (by kernel_rfl) (by kernel_rfl) (fun _ _ _ h => h) ?_ (by assumption) ?_
  rotate_left 1
  focus (refine Or.inl ⟨by rfl, ?_⟩; intro wq hSw; go_simp; try with_reducible rfl)
  try simp only [Act.put, List.setIfInBounds_toArray, List.set_cons_zero, List.set_cons_succ]
  have hwr0 : IntKind.i64.wrap (a + t) = a + t := IntWalk.i64_in _ (by omega)
  have hwr1 : IntKind.i64.wrap (a + t - 1) = a + t - 1 := IntWalk.i64_in _ (by omega)
  simp only [hwr0, hwr1]
  refine Rk.wpAnyK_ready (rs := [16]) (by kernel_rfl) (by simp) ?_
  refine Rk.AllReadyK.cons rfl (fun KK hKK => ?_) Rk.AllReadyK.nil
  go_simp
  refine (below_draw _ cb w.heap.size a0 len0 cap0 HDd.out.dr 60 (by omega) (by omega)).mono ?_
  rintro e w4 ⟨⟨y, rfl, hy0, hy1⟩, hw4⟩
  have HD4 := Lib.hid (HDd.out.draw hw4)
  clear hw4
  dsimp only
  refine hKK.out _ _ ⟨HD4.out.f.cell 0 (.int .i64 i) rfl, HD4.out.f.cell 1 (.int .i64 d) rfl, HD4.out.f.cell 2 (.int .i64 c) rfl, HD4.out.f.cell 3 (.string b) rfl, HD4.out.f.cell 4 (.int .i64 a) rfl, HD4.out.f.cell 5 (.int .i64 t) rfl, HD4.out.f.cell 6 (.int .i64 r) rfl, HD4.out.f.cell 7 (.int .i64 n) rfl, HD4.out.f.cell 8 (.int .i64 s) rfl⟩ (fun hHeld => ?_)
  clear hKK
  try simp only [Act.put, List.setIfInBounds_toArray, List.set_cons_zero, List.set_cons_succ]
  refine Rk.wpAnyK_ready (rs := [17]) (by kernel_rfl) (by simp) ?_
  refine Rk.AllReadyK.cons rfl (fun KK hKK => ?_) Rk.AllReadyK.nil
  go_simp
  have HDX := Lib.hid (HD4.out.step (bOne w4 (.cells #[.int .i64 a, .int .i64 (a + t), .int .i64 (a + t - 1), .int .i64 y] 3)))
  have HNE4 := Lib.hid (show w4.heap.size ≠ cb by have := HD4.out.dr.cur.lt; omega)
  refine hKK.out _ _ ⟨HDX.out.f.cell 0 (.int .i64 i) rfl, HDX.out.f.cell 1 (.int .i64 d) rfl, HDX.out.f.cell 2 (.int .i64 c) rfl, HDX.out.f.cell 3 (.string b) rfl, HDX.out.f.cell 4 (.int .i64 a) rfl, HDX.out.f.cell 5 (.int .i64 t) rfl, HDX.out.f.cell 6 (.int .i64 r) rfl, HDX.out.f.cell 7 (.int .i64 n) rfl, HDX.out.f.cell 8 (.int .i64 s) rfl⟩ (fun hHeld => ?_)
  clear hKK
  try simp only [Act.put, List.setIfInBounds_toArray, List.set_cons_zero, List.set_cons_succ]
  refine Rk.wpAnyK_ready (rs := [18]) (by kernel_rfl) (by simp) ?_
  refine Rk.AllReadyK.cons rfl (fun KK hKK => ?_) Rk.AllReadyK.nil
  go_simp
  refine (pickInt_draw _ cb w.heap.size a0 len0 cap0 HDX.out.dr w4.heap.size 4 PN (nums_4 w4 (a) ((a + t)) ((a + t - 1)) (y) (by unfold PN; omega) (by unfold PN; omega) (by unfold PN; omega) (by unfold PN; omega)) HNE4.out (by simp) (by omega) (by omega)).mono ?_
  rintro e w6 ⟨⟨z, rfl, hz⟩, hw6⟩
  have HD6 := Lib.hid (HDX.out.draw hw6)
  have HPZ := Lib.hid hz
  clear hw6 hz HDX HD4
  dsimp only
  refine hKK.out _ _ ⟨HD6.out.f.cell 0 (.int .i64 i) rfl, HD6.out.f.cell 1 (.int .i64 d) rfl, HD6.out.f.cell 2 (.int .i64 c) rfl, HD6.out.f.cell 3 (.string b) rfl, HD6.out.f.cell 4 (.int .i64 a) rfl, HD6.out.f.cell 5 (.int .i64 t) rfl, HD6.out.f.cell 6 (.int .i64 r) rfl, HD6.out.f.cell 7 (.int .i64 n) rfl, HD6.out.f.cell 8 (.int .i64 s) rfl⟩ (fun hHeld => ?_)
  clear hKK
  try simp only [Act.put, List.setIfInBounds_toArray, List.set_cons_zero, List.set_cons_succ]
  have z0 := HD6.out.z.cell 0 (.int .i64 0) rfl
  have g0 := HD6.out.z.frozen 0
  have z1 := HD6.out.z.cell 1 (.int .i64 0) rfl
  have g1 := HD6.out.z.frozen 1
  have z2 := HD6.out.z.cell 2 (.int .i64 0) rfl
  have g2 := HD6.out.z.frozen 2
  have z3 := HD6.out.z.cell 3 (.string ⟨#[]⟩) rfl
  have g3 := HD6.out.z.frozen 3
  have z4 := HD6.out.z.cell 4 (.int .i64 0) rfl
  have g4 := HD6.out.z.frozen 4
  have z5 := HD6.out.z.cell 5 (.int .i64 0) rfl
  have g5 := HD6.out.z.frozen 5
  have z6 := HD6.out.z.cell 6 (.int .i64 0) rfl
  have g6 := HD6.out.z.frozen 6
  have z7 := HD6.out.z.cell 7 (.int .i64 0) rfl
  have g7 := HD6.out.z.frozen 7
  have z8 := HD6.out.z.cell 8 (.int .i64 0) rfl
  have g8 := HD6.out.z.frozen 8
  refine Rk.wpAnyK_ready (rs := [19]) (by kernel_rfl) (by simp) ?_
  refine Rk.AllReadyK.past rfl (by kernel_rfl) (fun KK hKK => ?_) Rk.AllReadyK.nil
  go_simp
  refine hKK.out _ _ ?_
  clear hKK
  try simp only [Act.put, List.setIfInBounds_toArray, List.set_cons_zero, List.set_cons_succ]
  refine Rk.wpAnyK_ready (rs := [20]) (by kernel_rfl) (by simp) ?_
  refine Rk.AllReadyK.past rfl (by kernel_rfl) (fun KK hKK => ?_) Rk.AllReadyK.nil
  go_simp
  refine hKK.out _ _ ?_
  clear hKK
  try simp only [Act.put, List.setIfInBounds_toArray, List.set_cons_zero, List.set_cons_succ]
  refine Rk.wpAnyK_done (by kernel_rfl) ?_ _
  have hfin := HD6.out.fin i d c b a t r n s
  go_wp2_with fail
  obtain ⟨X, hX⟩ : ∃ X, X = (((((((((w6.setCell ⟨w.heap.size, 0, none⟩ (.int .i64 i)).setCell ⟨w.heap.size, 1, none⟩ (.int .i64 d)).setCell ⟨w.heap.size, 2, none⟩ (.int .i64 c)).setCell ⟨w.heap.size, 3, none⟩ (.string b)).setCell ⟨w.heap.size, 4, none⟩ (.int .i64 a)).setCell ⟨w.heap.size, 5, none⟩ (.int .i64 t)).setCell ⟨w.heap.size, 6, none⟩ (.int .i64 r)).setCell ⟨w.heap.size, 7, none⟩ (.int .i64 n)).setCell ⟨w.heap.size, 8, none⟩ (.int .i64 s)) := ⟨_, rfl⟩
  rw [← hX] at hfin ⊢
  clear hX
  obtain ⟨hfx, hlx⟩ := hfin
  obtain ⟨x0, x1, x2, x3, x4, x5, x6, x7, x8, hlt⟩ := hfx.box
  exact bodyPost_ret (v := .tuple #[.agg #[.int .i64 i, .int .i64 d, .int .i64 c, .string b, .int .i64 a, .int .i64 t, .int .i64 r, .int .i64 n, .int .i64 s], .int .i64 z]) (by simp [results, Try.results11, go_sem, x0, x1, x2, x3, x4, x5, x6, x7, x8]) rfl ⟨⟨_, _, _, _, _, _, _, _, _, _, HDE.out, HPZ.out, rfl⟩, hlx⟩

set_option maxRecDepth 100000 in
set_option maxHeartbeats 2000000 in
theorem drawKnocked_draw (w : World) (a0 : Option Addr) (len0 cap0 : Nat) (hcode : CodeAt w.heap.size w a0 len0 cap0) :
    Calls Try.prog 18 #[.slice a0 len0 cap0] w fun e w' => (∃ (i d c : Int) (b : ByteArray) (a t r n s : Int) (now wt : Int), DEv b.size a t r n s ∧ 0 ≤ now ∧ now ≤ 59 ∧ 0 ≤ wt ∧ wt ≤ 29 ∧ e = .returned (.tuple #[.agg #[.int .i64 i, .int .i64 d, .int .i64 c, .string b, .int .i64 a, .int .i64 t, .int .i64 r, .int .i64 n, .int .i64 s], .int .i64 now, .int .i64 wt])) ∧ Below w.heap.size w w' := by
  have HC := Lib.hid (hcode.below (bOne w (.cells #[.int .i64 0, .int .i64 0, .int .i64 0, .string ⟨#[]⟩, .int .i64 0, .int .i64 0, .int .i64 0, .int .i64 0, .int .i64 0] 25)))
  have HZ0 := Lib.hid (Hv.new w #[.int .i64 0, .int .i64 0, .int .i64 0, .string ⟨#[]⟩, .int .i64 0, .int .i64 0, .int .i64 0, .int .i64 0, .int .i64 0])
  have HL0 := Lib.hid (bOne w (.cells #[.int .i64 0, .int .i64 0, .int .i64 0, .string ⟨#[]⟩, .int .i64 0, .int .i64 0, .int .i64 0, .int .i64 0, .int .i64 0] 25))
  have HNE := Lib.hid (show w.heap.size ≠ (w.alloc (.cells #[.int .i64 0, .int .i64 0, .int .i64 0, .string ⟨#[]⟩, .int .i64 0, .int .i64 0, .int .i64 0, .int .i64 0, .int .i64 0] 25)).heap.size by simp)
  clear hcode
  go_enter Try.func18, Try.ntmps18
  go_wp2_with fail
  refine (new_draw _ w.heap.size a0 len0 cap0 HC.out (by simp)).mono ?_
  rintro e w1 ⟨rfl, hd, hb1, hs1⟩
  have HL1 := Lib.hid (bAfter HL0.out hb1 HL0.out.size)
  have HZ1 := Lib.hid (HZ0.out.low hb1)
  have HD := Lib.hid hd
  clear hd hb1 hs1 HZ0 HC
  obtain ⟨cb, hcb⟩ : ∃ cb, cb = (w.alloc (.cells #[.int .i64 0, .int .i64 0, .int .i64 0, .string ⟨#[]⟩, .int .i64 0, .int .i64 0, .int .i64 0, .int .i64 0, .int .i64 0] 25)).heap.size := ⟨_, rfl⟩
  have HGC := Lib.hid (show w.heap.size ≤ cb by rw [hcb]; exact HL0.out.size)
  rw [← hcb] at HD HNE ⊢
  clear hcb HL0
  go_wp2_with fail
  refine (evOdd_draw _ cb w.heap.size a0 len0 cap0 HD.out HL1.out.size).mono ?_
  rintro e w2 ⟨⟨i, d, c, b, a, t, r, n, s, hde, rfl⟩, hw⟩
  have HDE := Lib.hid hde
  have HDS := Lib.hid (show Ds w.heap.size w (w2.alloc (.cells #[.int .i64 i, .int .i64 d, .int .i64 c, .string b, .int .i64 a, .int .i64 t, .int .i64 r, .int .i64 n, .int .i64 s] 25)) cb a0 len0 cap0 w.heap.size w2.heap.size #[.int .i64 i, .int .i64 d, .int .i64 c, .string b, .int .i64 a, .int .i64 t, .int .i64 r, .int .i64 n, .int .i64 s] from by
    have hl2 := HL1.out.grown hw.grown HL1.out.size (fun k e => by injection e with e; have := HGC.out; omega)
    have h1 := hw.grown.size
    have h2 := HD.out.cur.lt
    exact ⟨(went_step hw.dr.refl (bOne _ _)).dr, bAfter hl2 (bOne _ _) hl2.size, (HZ1.out.grown hw.grown HNE.out).low (bOne _ _), Hv.new _ _, Nat.le_refl _, HGC.out, HNE.out, by omega⟩)
  clear hde hw HD HL1 HZ1
  obtain ⟨b3, hb3⟩ : ∃ b, b = w2.heap.size := ⟨_, rfl⟩
  obtain ⟨w3, hw3⟩ : ∃ w3, w3 = w2.alloc (.cells #[.int .i64 i, .int .i64 d, .int .i64 c, .string b, .int .i64 a, .int .i64 t, .int .i64 r, .int .i64 n, .int .i64 s] 25) := ⟨_, rfl⟩
  go_upto_region 3 with fail
  rw [← hb3, ← hw3] at HDS ⊢
  clear hb3 hw3
  go_wp2_with fail
  refine (below_draw _ cb w.heap.size a0 len0 cap0 HDS.out.dr 60 (by omega) (by omega)).mono ?_
  rintro e w4 ⟨⟨now, rfl, hy0, hy1⟩, hw4⟩
  have HD4 := Lib.hid (HDS.out.draw hw4)
  have HNW := Lib.hid (show 0 ≤ now ∧ now ≤ 59 from ⟨hy0, by omega⟩)
  clear hw4 HDS hy0 hy1
  go_upto_region 4 with fail
  have HDd := Lib.hid (HD4.out.step (below_drewE (Below.refl _ _)))
  refine Rk.wp_region_K (k := 4) (S := fun w' => w'.cell? ⟨b3, 0, none⟩ = some (.int .i64 i) ∧ w'.cell? ⟨b3, 1, none⟩ = some (.int .i64 d) ∧ w'.cell? ⟨b3, 2, none⟩ = some (.int .i64 c) ∧ w'.cell? ⟨b3, 3, none⟩ = some (.string b) ∧ w'.cell? ⟨b3, 4, none⟩ = some (.int .i64 a) ∧ w'.cell? ⟨b3, 5, none⟩ = some (.int .i64 t) ∧ w'.cell? ⟨b3, 6, none⟩ = some (.int .i64 r) ∧ w'.cell? ⟨b3, 7, none⟩ = some (.int .i64 n) ∧ w'.cell? ⟨b3, 8, none⟩ = some (.int .i64 s)) (by kernel_rfl) ⟨HD4.out.f.cell 0 (.int .i64 i) rfl, HD4.out.f.cell 1 (.int .i64 d) rfl, HD4.out.f.cell 2 (.int .i64 c) rfl, HD4.out.f.cell 3 (.string b) rfl, HD4.out.f.cell 4 (.int .i64 a) rfl, HD4.out.f.cell 5 (.int .i64 t) rfl, HD4.out.f.cell 6 (.int .i64 r) rfl, HD4.out.f.cell 7 (.int .i64 n) rfl, HD4.out.f.cell 8 (.int .i64 s) rfl⟩ (fun hHeld => ?_)
  refine Rk.wpAnyK_take (i := 0) (oi := { dst := some _, op := _, type := _, pos := _, after := _, guard := _ }) (v := ?_) rfl (by kernel_rfl) (by kernel_rfl) (by kernel_rfl) (by kernel_rfl) (by kernel_rfl) (fun _ _ _ h => h) ?_ (by assumption) ?_
  rotate_left 1
  focus (refine Or.inl ⟨by rfl, ?_⟩; intro wq hSw; obtain ⟨s0, s1, s2, s3, s4, s5, s6, s7, s8⟩ := hSw; go_simp; try with_reducible rfl)
  try simp only [Act.put, List.setIfInBounds_toArray, List.set_cons_zero, List.set_cons_succ]
  refine Rk.wpAnyK_free (i := 1) (oi := { dst := some _, op := _, type := _, pos := _, after := _, guard := _ }) (v := ?_) rfl (by kernel_rfl) (by kernel_rfl) (by kernel_rfl) (by kernel_rfl) (by kernel_rfl) (fun _ _ _ h => h) ?_ (fun _ => by assumption) ?_
  rotate_left 1
  focus (refine Or.inl ⟨by rfl, ?_⟩; intro wq hSw; go_simp; try with_reducible rfl)
  try simp only [Act.put, List.setIfInBounds_toArray, List.set_cons_zero, List.set_cons_succ]
  refine Rk.wpAnyK_take (i := 2) (oi := { dst := some _, op := _, type := _, pos := _, after := _, guard := _ }) (v := ?_) rfl (by kernel_rfl) (by kernel_rfl) (by kernel_rfl) (by kernel_rfl) (by kernel_rfl) (fun _ _ _ h => h) ?_ (by assumption) ?_
  rotate_left 1
  focus (refine Or.inl ⟨by rfl, ?_⟩; intro wq hSw; go_simp; try with_reducible rfl)
  try simp only [Act.put, List.setIfInBounds_toArray, List.set_cons_zero, List.set_cons_succ]
  refine Rk.wpAnyK_ready (rs := [3]) (by kernel_rfl) (by simp) ?_
  refine Rk.AllReadyK.cons rfl (fun KK hKK => ?_) Rk.AllReadyK.nil
  go_simp
  refine (below_draw _ cb w.heap.size a0 len0 cap0 HDd.out.dr 30 (by omega) (by omega)).mono ?_
  rintro e w5 ⟨⟨wt, rfl, hy0, hy1⟩, hw4⟩
  have HD5 := Lib.hid (HDd.out.draw hw4)
  clear hw4
  dsimp only
  refine hKK.out _ _ ⟨HD5.out.f.cell 0 (.int .i64 i) rfl, HD5.out.f.cell 1 (.int .i64 d) rfl, HD5.out.f.cell 2 (.int .i64 c) rfl, HD5.out.f.cell 3 (.string b) rfl, HD5.out.f.cell 4 (.int .i64 a) rfl, HD5.out.f.cell 5 (.int .i64 t) rfl, HD5.out.f.cell 6 (.int .i64 r) rfl, HD5.out.f.cell 7 (.int .i64 n) rfl, HD5.out.f.cell 8 (.int .i64 s) rfl⟩ (fun hHeld => ?_)
  clear hKK
  try simp only [Act.put, List.setIfInBounds_toArray, List.set_cons_zero, List.set_cons_succ]
  have z0 := HD5.out.z.cell 0 (.int .i64 0) rfl
  have g0 := HD5.out.z.frozen 0
  have z1 := HD5.out.z.cell 1 (.int .i64 0) rfl
  have g1 := HD5.out.z.frozen 1
  have z2 := HD5.out.z.cell 2 (.int .i64 0) rfl
  have g2 := HD5.out.z.frozen 2
  have z3 := HD5.out.z.cell 3 (.string ⟨#[]⟩) rfl
  have g3 := HD5.out.z.frozen 3
  have z4 := HD5.out.z.cell 4 (.int .i64 0) rfl
  have g4 := HD5.out.z.frozen 4
  have z5 := HD5.out.z.cell 5 (.int .i64 0) rfl
  have g5 := HD5.out.z.frozen 5
  have z6 := HD5.out.z.cell 6 (.int .i64 0) rfl
  have g6 := HD5.out.z.frozen 6
  have z7 := HD5.out.z.cell 7 (.int .i64 0) rfl
  have g7 := HD5.out.z.frozen 7
  have z8 := HD5.out.z.cell 8 (.int .i64 0) rfl
  have g8 := HD5.out.z.frozen 8
  refine Rk.wpAnyK_ready (rs := [4]) (by kernel_rfl) (by simp) ?_
  refine Rk.AllReadyK.past rfl (by kernel_rfl) (fun KK hKK => ?_) Rk.AllReadyK.nil
  go_simp
  refine hKK.out _ _ ?_
  clear hKK
  try simp only [Act.put, List.setIfInBounds_toArray, List.set_cons_zero, List.set_cons_succ]
  refine Rk.wpAnyK_ready (rs := [5]) (by kernel_rfl) (by simp) ?_
  refine Rk.AllReadyK.past rfl (by kernel_rfl) (fun KK hKK => ?_) Rk.AllReadyK.nil
  go_simp
  refine hKK.out _ _ ?_
  clear hKK
  try simp only [Act.put, List.setIfInBounds_toArray, List.set_cons_zero, List.set_cons_succ]
  refine Rk.wpAnyK_ready (rs := [6]) (by kernel_rfl) (by simp) ?_
  refine Rk.AllReadyK.past rfl (by kernel_rfl) (fun KK hKK => ?_) Rk.AllReadyK.nil
  go_simp
  refine hKK.out _ _ ?_
  clear hKK
  try simp only [Act.put, List.setIfInBounds_toArray, List.set_cons_zero, List.set_cons_succ]
  refine Rk.wpAnyK_done (by kernel_rfl) ?_ _
  have hfin := HD5.out.fin i d c b a t r n s
  go_wp2_with fail
  obtain ⟨X, hX⟩ : ∃ X, X = (((((((((w5.setCell ⟨w.heap.size, 0, none⟩ (.int .i64 i)).setCell ⟨w.heap.size, 1, none⟩ (.int .i64 d)).setCell ⟨w.heap.size, 2, none⟩ (.int .i64 c)).setCell ⟨w.heap.size, 3, none⟩ (.string b)).setCell ⟨w.heap.size, 4, none⟩ (.int .i64 a)).setCell ⟨w.heap.size, 5, none⟩ (.int .i64 t)).setCell ⟨w.heap.size, 6, none⟩ (.int .i64 r)).setCell ⟨w.heap.size, 7, none⟩ (.int .i64 n)).setCell ⟨w.heap.size, 8, none⟩ (.int .i64 s)) := ⟨_, rfl⟩
  rw [← hX] at hfin ⊢
  clear hX
  obtain ⟨hfx, hlx⟩ := hfin
  obtain ⟨x0, x1, x2, x3, x4, x5, x6, x7, x8, hlt⟩ := hfx.box
  exact bodyPost_ret (v := .tuple #[.agg #[.int .i64 i, .int .i64 d, .int .i64 c, .string b, .int .i64 a, .int .i64 t, .int .i64 r, .int .i64 n, .int .i64 s], .int .i64 now, .int .i64 wt]) (by simp [results, Try.results18, go_sem, x0, x1, x2, x3, x4, x5, x6, x7, x8]) rfl ⟨⟨_, _, _, _, _, _, _, _, _, _, _, HDE.out, HNW.out.1, HNW.out.2, hy0, by omega, rfl⟩, hlx⟩
end Go.Proofs.Ytjcopkjapnieoaa.Evt
