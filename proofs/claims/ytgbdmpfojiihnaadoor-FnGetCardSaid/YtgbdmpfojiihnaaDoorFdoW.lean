/-
  The walks of spec's l04Odd, and of the draws that are it.
-/
import Derived.Test.YtgbdmpfojiihnaaDoorFdwM
import Derived.Test.YtgbdmpfojiihnaaDoorDrwX
namespace Go.Proofs.YtgbdmpfojiihnaaDoor.Fdw
open Go.RowKit Go.Proofs.YtgbdmpfojiihnaaDoor.Kit Go.Proofs.YtgbdmpfojiihnaaDoor.Frm
set_option linter.unusedVariables false

theorem zeros_cells (n : Nat) : (madeCells (Value.int .u8 0).cells (n * 1)).toList = Lib.byteCells (List.replicate n (0 : UInt8)) := by
  rw [Nat.mul_one]
  show (madeCells #[Value.int .u8 0] n).toList = _
  rw [toList_madeCells_one]
  simp [Lib.byteCells]
theorem nums_0 (W : World) : Draw.Nums (W.alloc (.cells #[.int .i64 0, .int .i64 5, .int .i64 1, .int .i64 2] 3)) W.heap.size 4 (fun _ => True) := Draw.nums_new W [.int .i64 0, .int .i64 5, .int .i64 1, .int .i64 2] 3 _ (by
  intro v hv
  simp only [List.mem_cons, List.mem_nil_iff, or_false] at hv
  rcases hv with rfl | rfl | rfl | rfl <;> exact ⟨_, rfl, trivial⟩)
theorem nums_1 (W : World) : Draw.Nums (W.alloc (.cells #[.int .i64 0, .int .i64 6, .int .i64 7] 3)) W.heap.size 3 (fun _ => True) := Draw.nums_new W [.int .i64 0, .int .i64 6, .int .i64 7] 3 _ (by
  intro v hv
  simp only [List.mem_cons, List.mem_nil_iff, or_false] at hv
  rcases hv with rfl | rfl | rfl <;> exact ⟨_, rfl, trivial⟩)
theorem nums_2 (W : World) : Draw.Nums (W.alloc (.cells #[.int .i64 (-1), .int .i64 60000, .int .i64 60001] 3)) W.heap.size 3 (fun _ => True) := Draw.nums_new W [.int .i64 (-1), .int .i64 60000, .int .i64 60001] 3 _ (by
  intro v hv
  simp only [List.mem_cons, List.mem_nil_iff, or_false] at hv
  rcases hv with rfl | rfl | rfl <;> exact ⟨_, rfl, trivial⟩)
theorem nums_3 (W : World) : Draw.Nums (W.alloc (.cells #[.int .i64 0, .int .i64 60000, .int .i64 60001] 3)) W.heap.size 3 (fun _ => True) := Draw.nums_new W [.int .i64 0, .int .i64 60000, .int .i64 60001] 3 _ (by
  intro v hv
  simp only [List.mem_cons, List.mem_nil_iff, or_false] at hv
  rcases hv with rfl | rfl | rfl <;> exact ⟨_, rfl, trivial⟩)
theorem nums_4 (W : World) : Draw.Nums (W.alloc (.cells #[.int .i64 0, .int .i64 9999, .int .i64 10000] 3)) W.heap.size 3 (fun _ => True) := Draw.nums_new W [.int .i64 0, .int .i64 9999, .int .i64 10000] 3 _ (by
  intro v hv
  simp only [List.mem_cons, List.mem_nil_iff, or_false] at hv
  rcases hv with rfl | rfl | rfl <;> exact ⟨_, rfl, trivial⟩)

set_option maxRecDepth 100000 in
set_option maxHeartbeats 4000000 in
theorem odd_e (w : World) (cb B : Nat) (a : Option Addr) (len cap : Nat) (c : Nat → Int) (hd : DrwE B w cb a len cap c) (hlen : len ≤ 1048576) (hB : B ≤ w.heap.size) :
    Calls Tryd.prog 28 #[.pointer (some ⟨cb, 0, none⟩)] w fun en w' => FrEnd B w w' cb a len cap c en := by
  have hcb := hd.lt
  obtain ⟨i0, hi, hz0, hz1, hz2⟩ := info_parts infoU8
  have HLEN := Lib.hid hlen
  have HBL := Lib.hid hB
  have HW0 := Lib.hid (hd.refl.alloc (.cells #[.int .i64 0, .int .i64 0, .int .i64 0, .int .i64 0, .int .i64 0, .string ⟨#[]⟩] 26))
  have HZ0 := Lib.hid (Hb.new w zf)
  obtain ⟨b2, hb2⟩ : ∃ b, b = w.heap.size := ⟨_, rfl⟩
  have HN2 := Lib.hid (show b2 ≠ cb by omega)
  have HB2 := Lib.hid hb2
  clear hd hlen hB
  go_enter Tryd.func28, Tryd.ntmps28
  go_wp2_with fail
  rw [← HB2.out] at HZ0 ⊢
  clear hb2
  refine (make_e _ cb B a len cap c HW0.out.dr HLEN.out (Nat.le_trans HBL.out HW0.out.grown.size)).mono ?_
  rintro en w4 ⟨⟨k, d, e, s, i, b, hbs, rfl⟩, hw⟩
  have HW4 := Lib.hid (HW0.out.trans hw)
  have HZ4 := Lib.hid (HZ0.out.grown hw.grown HN2.out)
  clear hw HW0 HZ0
  have HF5 := Lib.hid (show Fs B w (w4.alloc (.cells (ff k d e s i b) 26)) cb a len cap c b2 w4.heap.size (ff k d e s i b) from by
    have h1 := HW4.out.grown.size
    have h2 := at_lt HZ4.out
    have h3 := HB2.out
    exact ⟨HW4.out.alloc _, HBL.out, HZ4.out.low (bOne _ _), Hb.new _ _, by omega, by omega, HN2.out, by omega, by omega⟩)
  obtain ⟨b3, hb3⟩ : ∃ b, b = w4.heap.size := ⟨_, rfl⟩
  obtain ⟨w5, hw5⟩ : ∃ w5, w5 = w4.alloc (.cells (ff k d e s i b) 26) := ⟨_, rfl⟩
  go_upto_region 2 with fail
  rw [← hb3] at HF5 ⊢
  rw [← hw5] at HF5 ⊢
  clear hw5 hb3 HW4 HZ4
  go_wp2_with fail
  refine (below_e _ cb B a len cap c HF5.out.wn.dr 12 (by omega) (by omega)).mono ?_
  rintro en w6 ⟨⟨x, rfl, hx0, hx1⟩, hw⟩
  have HF6 := Lib.hid (HF5.out.draw hw)
  clear hw HF5
  rcases (show x = 0 ∨ x = 1 ∨ x = 2 ∨ x = 3 ∨ x = 4 ∨ x = 5 ∨ 6 ≤ x by omega) with rfl | rfl | rfl | rfl | rfl | rfl | hx
  · go_wp2_with fail
    have HF7 := Lib.hid (HF6.out.low (bOne w6 (.cells #[.int .i64 0, .int .i64 5, .int .i64 1, .int .i64 2] 3)))
    refine (pickInt_e _ cb B a len cap c HF7.out.wn.dr w6.heap.size 4 (fun _ => True) (nums_0 w6) (by have := HF6.out.wn.dr.lt; omega) (by simp) (by omega) (by omega)).mono ?_
    rintro en w8 ⟨⟨z, rfl, _⟩, hw⟩
    have HF8 := Lib.hid (HF7.out.draw hw)
    clear hw HF7 HF6
    have c0 := HF8.out.f.cell 0 (.int .i64 k) rfl
    have f0 := HF8.out.f.frozen 0
    have HFx := Lib.hid (show Fs B w (w8.setCell ⟨b3, 0, none⟩ (.int .i64 z)) cb a len cap c b2 b3 (ff z d e s i b) from HF8.out.set 0 (.int .i64 z))
    obtain ⟨wx, hwx⟩ : ∃ wx, wx = w8.setCell ⟨b3, 0, none⟩ (.int .i64 z) := ⟨_, rfl⟩
    go_upto_region 15 with fail
    rw [← hwx] at HFx ⊢
    clear hwx HF8 c0 f0
    have c0 := HFx.out.f.cell 0 (.int .i64 z) rfl
    have c1 := HFx.out.f.cell 1 (.int .i64 d) rfl
    have c2 := HFx.out.f.cell 2 (.int .i64 e) rfl
    have c3 := HFx.out.f.cell 3 (.int .i64 s) rfl
    have c4 := HFx.out.f.cell 4 (.int .i64 i) rfl
    have c5 := HFx.out.f.cell 5 (.string b) rfl
    have z0 := HFx.out.z.cell 0 (.int .i64 0) rfl
    have g0 := HFx.out.z.frozen 0
    have z1 := HFx.out.z.cell 1 (.int .i64 0) rfl
    have g1 := HFx.out.z.frozen 1
    have z2 := HFx.out.z.cell 2 (.int .i64 0) rfl
    have g2 := HFx.out.z.frozen 2
    have z3 := HFx.out.z.cell 3 (.int .i64 0) rfl
    have g3 := HFx.out.z.frozen 3
    have z4 := HFx.out.z.cell 4 (.int .i64 0) rfl
    have g4 := HFx.out.z.frozen 4
    have z5 := HFx.out.z.cell 5 (.string ⟨#[]⟩) rfl
    have g5 := HFx.out.z.frozen 5
    go_wp2_with fail
    have hfin := HFx.out.fin
    obtain ⟨X, hX⟩ : ∃ X, X = ((((((wx.setCell ⟨b2, 0, none⟩ (.int .i64 z)).setCell ⟨b2, 1, none⟩ (.int .i64 d)).setCell ⟨b2, 2, none⟩ (.int .i64 e)).setCell ⟨b2, 3, none⟩ (.int .i64 s)).setCell ⟨b2, 4, none⟩ (.int .i64 i)).setCell ⟨b2, 5, none⟩ (.string b)) := ⟨_, rfl⟩
    rw [← hX] at hfin ⊢
    clear hX
    obtain ⟨⟨x0, x1, x2, x3, x4, x5, hlx⟩, hwx⟩ := hfin
    exact bodyPost_ret (v := .agg #[.int .i64 z, .int .i64 d, .int .i64 e, .int .i64 s, .int .i64 i, .string b]) (by simp [results, Tryd.results28, go_sem, x0, x1, x2, x3, x4, x5]) rfl ⟨⟨_, _, _, _, _, _, hbs, rfl⟩, hwx⟩
  · go_wp2_with fail
    have HF7 := Lib.hid (HF6.out.low (bOne w6 (.cells #[.int .i64 0, .int .i64 6, .int .i64 7] 3)))
    refine (pickInt_e _ cb B a len cap c HF7.out.wn.dr w6.heap.size 3 (fun _ => True) (nums_1 w6) (by have := HF6.out.wn.dr.lt; omega) (by simp) (by omega) (by omega)).mono ?_
    rintro en w8 ⟨⟨z, rfl, _⟩, hw⟩
    have HF8 := Lib.hid (HF7.out.draw hw)
    clear hw HF7 HF6
    have c1 := HF8.out.f.cell 1 (.int .i64 d) rfl
    have f1 := HF8.out.f.frozen 1
    have HFx := Lib.hid (show Fs B w (w8.setCell ⟨b3, 1, none⟩ (.int .i64 z)) cb a len cap c b2 b3 (ff k z e s i b) from HF8.out.set 1 (.int .i64 z))
    obtain ⟨wx, hwx⟩ : ∃ wx, wx = w8.setCell ⟨b3, 1, none⟩ (.int .i64 z) := ⟨_, rfl⟩
    go_upto_region 15 with fail
    rw [← hwx] at HFx ⊢
    clear hwx HF8 c1 f1
    have c0 := HFx.out.f.cell 0 (.int .i64 k) rfl
    have c1 := HFx.out.f.cell 1 (.int .i64 z) rfl
    have c2 := HFx.out.f.cell 2 (.int .i64 e) rfl
    have c3 := HFx.out.f.cell 3 (.int .i64 s) rfl
    have c4 := HFx.out.f.cell 4 (.int .i64 i) rfl
    have c5 := HFx.out.f.cell 5 (.string b) rfl
    have z0 := HFx.out.z.cell 0 (.int .i64 0) rfl
    have g0 := HFx.out.z.frozen 0
    have z1 := HFx.out.z.cell 1 (.int .i64 0) rfl
    have g1 := HFx.out.z.frozen 1
    have z2 := HFx.out.z.cell 2 (.int .i64 0) rfl
    have g2 := HFx.out.z.frozen 2
    have z3 := HFx.out.z.cell 3 (.int .i64 0) rfl
    have g3 := HFx.out.z.frozen 3
    have z4 := HFx.out.z.cell 4 (.int .i64 0) rfl
    have g4 := HFx.out.z.frozen 4
    have z5 := HFx.out.z.cell 5 (.string ⟨#[]⟩) rfl
    have g5 := HFx.out.z.frozen 5
    go_wp2_with fail
    have hfin := HFx.out.fin
    obtain ⟨X, hX⟩ : ∃ X, X = ((((((wx.setCell ⟨b2, 0, none⟩ (.int .i64 k)).setCell ⟨b2, 1, none⟩ (.int .i64 z)).setCell ⟨b2, 2, none⟩ (.int .i64 e)).setCell ⟨b2, 3, none⟩ (.int .i64 s)).setCell ⟨b2, 4, none⟩ (.int .i64 i)).setCell ⟨b2, 5, none⟩ (.string b)) := ⟨_, rfl⟩
    rw [← hX] at hfin ⊢
    clear hX
    obtain ⟨⟨x0, x1, x2, x3, x4, x5, hlx⟩, hwx⟩ := hfin
    exact bodyPost_ret (v := .agg #[.int .i64 k, .int .i64 z, .int .i64 e, .int .i64 s, .int .i64 i, .string b]) (by simp [results, Tryd.results28, go_sem, x0, x1, x2, x3, x4, x5]) rfl ⟨⟨_, _, _, _, _, _, hbs, rfl⟩, hwx⟩
  · go_wp2_with fail
    have HF7 := Lib.hid (HF6.out.low (bOne w6 (.cells #[.int .i64 (-1), .int .i64 60000, .int .i64 60001] 3)))
    refine (pickInt_e _ cb B a len cap c HF7.out.wn.dr w6.heap.size 3 (fun _ => True) (nums_2 w6) (by have := HF6.out.wn.dr.lt; omega) (by simp) (by omega) (by omega)).mono ?_
    rintro en w8 ⟨⟨z, rfl, _⟩, hw⟩
    have HF8 := Lib.hid (HF7.out.draw hw)
    clear hw HF7 HF6
    have c2 := HF8.out.f.cell 2 (.int .i64 e) rfl
    have f2 := HF8.out.f.frozen 2
    have HFx := Lib.hid (show Fs B w (w8.setCell ⟨b3, 2, none⟩ (.int .i64 z)) cb a len cap c b2 b3 (ff k d z s i b) from HF8.out.set 2 (.int .i64 z))
    obtain ⟨wx, hwx⟩ : ∃ wx, wx = w8.setCell ⟨b3, 2, none⟩ (.int .i64 z) := ⟨_, rfl⟩
    go_upto_region 15 with fail
    rw [← hwx] at HFx ⊢
    clear hwx HF8 c2 f2
    have c0 := HFx.out.f.cell 0 (.int .i64 k) rfl
    have c1 := HFx.out.f.cell 1 (.int .i64 d) rfl
    have c2 := HFx.out.f.cell 2 (.int .i64 z) rfl
    have c3 := HFx.out.f.cell 3 (.int .i64 s) rfl
    have c4 := HFx.out.f.cell 4 (.int .i64 i) rfl
    have c5 := HFx.out.f.cell 5 (.string b) rfl
    have z0 := HFx.out.z.cell 0 (.int .i64 0) rfl
    have g0 := HFx.out.z.frozen 0
    have z1 := HFx.out.z.cell 1 (.int .i64 0) rfl
    have g1 := HFx.out.z.frozen 1
    have z2 := HFx.out.z.cell 2 (.int .i64 0) rfl
    have g2 := HFx.out.z.frozen 2
    have z3 := HFx.out.z.cell 3 (.int .i64 0) rfl
    have g3 := HFx.out.z.frozen 3
    have z4 := HFx.out.z.cell 4 (.int .i64 0) rfl
    have g4 := HFx.out.z.frozen 4
    have z5 := HFx.out.z.cell 5 (.string ⟨#[]⟩) rfl
    have g5 := HFx.out.z.frozen 5
    go_wp2_with fail
    have hfin := HFx.out.fin
    obtain ⟨X, hX⟩ : ∃ X, X = ((((((wx.setCell ⟨b2, 0, none⟩ (.int .i64 k)).setCell ⟨b2, 1, none⟩ (.int .i64 d)).setCell ⟨b2, 2, none⟩ (.int .i64 z)).setCell ⟨b2, 3, none⟩ (.int .i64 s)).setCell ⟨b2, 4, none⟩ (.int .i64 i)).setCell ⟨b2, 5, none⟩ (.string b)) := ⟨_, rfl⟩
    rw [← hX] at hfin ⊢
    clear hX
    obtain ⟨⟨x0, x1, x2, x3, x4, x5, hlx⟩, hwx⟩ := hfin
    exact bodyPost_ret (v := .agg #[.int .i64 k, .int .i64 d, .int .i64 z, .int .i64 s, .int .i64 i, .string b]) (by simp [results, Tryd.results28, go_sem, x0, x1, x2, x3, x4, x5]) rfl ⟨⟨_, _, _, _, _, _, hbs, rfl⟩, hwx⟩
  · go_wp2_with fail
    have HF7 := Lib.hid (HF6.out.low (bOne w6 (.cells #[.int .i64 0, .int .i64 60000, .int .i64 60001] 3)))
    refine (pickInt_e _ cb B a len cap c HF7.out.wn.dr w6.heap.size 3 (fun _ => True) (nums_3 w6) (by have := HF6.out.wn.dr.lt; omega) (by simp) (by omega) (by omega)).mono ?_
    rintro en w8 ⟨⟨z, rfl, _⟩, hw⟩
    have HF8 := Lib.hid (HF7.out.draw hw)
    clear hw HF7 HF6
    have c3 := HF8.out.f.cell 3 (.int .i64 s) rfl
    have f3 := HF8.out.f.frozen 3
    have HFx := Lib.hid (show Fs B w (w8.setCell ⟨b3, 3, none⟩ (.int .i64 z)) cb a len cap c b2 b3 (ff k d e z i b) from HF8.out.set 3 (.int .i64 z))
    obtain ⟨wx, hwx⟩ : ∃ wx, wx = w8.setCell ⟨b3, 3, none⟩ (.int .i64 z) := ⟨_, rfl⟩
    go_upto_region 15 with fail
    rw [← hwx] at HFx ⊢
    clear hwx HF8 c3 f3
    have c0 := HFx.out.f.cell 0 (.int .i64 k) rfl
    have c1 := HFx.out.f.cell 1 (.int .i64 d) rfl
    have c2 := HFx.out.f.cell 2 (.int .i64 e) rfl
    have c3 := HFx.out.f.cell 3 (.int .i64 z) rfl
    have c4 := HFx.out.f.cell 4 (.int .i64 i) rfl
    have c5 := HFx.out.f.cell 5 (.string b) rfl
    have z0 := HFx.out.z.cell 0 (.int .i64 0) rfl
    have g0 := HFx.out.z.frozen 0
    have z1 := HFx.out.z.cell 1 (.int .i64 0) rfl
    have g1 := HFx.out.z.frozen 1
    have z2 := HFx.out.z.cell 2 (.int .i64 0) rfl
    have g2 := HFx.out.z.frozen 2
    have z3 := HFx.out.z.cell 3 (.int .i64 0) rfl
    have g3 := HFx.out.z.frozen 3
    have z4 := HFx.out.z.cell 4 (.int .i64 0) rfl
    have g4 := HFx.out.z.frozen 4
    have z5 := HFx.out.z.cell 5 (.string ⟨#[]⟩) rfl
    have g5 := HFx.out.z.frozen 5
    go_wp2_with fail
    have hfin := HFx.out.fin
    obtain ⟨X, hX⟩ : ∃ X, X = ((((((wx.setCell ⟨b2, 0, none⟩ (.int .i64 k)).setCell ⟨b2, 1, none⟩ (.int .i64 d)).setCell ⟨b2, 2, none⟩ (.int .i64 e)).setCell ⟨b2, 3, none⟩ (.int .i64 z)).setCell ⟨b2, 4, none⟩ (.int .i64 i)).setCell ⟨b2, 5, none⟩ (.string b)) := ⟨_, rfl⟩
    rw [← hX] at hfin ⊢
    clear hX
    obtain ⟨⟨x0, x1, x2, x3, x4, x5, hlx⟩, hwx⟩ := hfin
    exact bodyPost_ret (v := .agg #[.int .i64 k, .int .i64 d, .int .i64 e, .int .i64 z, .int .i64 i, .string b]) (by simp [results, Tryd.results28, go_sem, x0, x1, x2, x3, x4, x5]) rfl ⟨⟨_, _, _, _, _, _, hbs, rfl⟩, hwx⟩
  · go_wp2_with fail
    have HF7 := Lib.hid (HF6.out.low (bOne w6 (.cells #[.int .i64 0, .int .i64 9999, .int .i64 10000] 3)))
    refine (pickInt_e _ cb B a len cap c HF7.out.wn.dr w6.heap.size 3 (fun _ => True) (nums_4 w6) (by have := HF6.out.wn.dr.lt; omega) (by simp) (by omega) (by omega)).mono ?_
    rintro en w8 ⟨⟨z, rfl, _⟩, hw⟩
    have HF8 := Lib.hid (HF7.out.draw hw)
    clear hw HF7 HF6
    have c4 := HF8.out.f.cell 4 (.int .i64 i) rfl
    have f4 := HF8.out.f.frozen 4
    have HFx := Lib.hid (show Fs B w (w8.setCell ⟨b3, 4, none⟩ (.int .i64 z)) cb a len cap c b2 b3 (ff k d e s z b) from HF8.out.set 4 (.int .i64 z))
    obtain ⟨wx, hwx⟩ : ∃ wx, wx = w8.setCell ⟨b3, 4, none⟩ (.int .i64 z) := ⟨_, rfl⟩
    go_upto_region 15 with fail
    rw [← hwx] at HFx ⊢
    clear hwx HF8 c4 f4
    have c0 := HFx.out.f.cell 0 (.int .i64 k) rfl
    have c1 := HFx.out.f.cell 1 (.int .i64 d) rfl
    have c2 := HFx.out.f.cell 2 (.int .i64 e) rfl
    have c3 := HFx.out.f.cell 3 (.int .i64 s) rfl
    have c4 := HFx.out.f.cell 4 (.int .i64 z) rfl
    have c5 := HFx.out.f.cell 5 (.string b) rfl
    have z0 := HFx.out.z.cell 0 (.int .i64 0) rfl
    have g0 := HFx.out.z.frozen 0
    have z1 := HFx.out.z.cell 1 (.int .i64 0) rfl
    have g1 := HFx.out.z.frozen 1
    have z2 := HFx.out.z.cell 2 (.int .i64 0) rfl
    have g2 := HFx.out.z.frozen 2
    have z3 := HFx.out.z.cell 3 (.int .i64 0) rfl
    have g3 := HFx.out.z.frozen 3
    have z4 := HFx.out.z.cell 4 (.int .i64 0) rfl
    have g4 := HFx.out.z.frozen 4
    have z5 := HFx.out.z.cell 5 (.string ⟨#[]⟩) rfl
    have g5 := HFx.out.z.frozen 5
    go_wp2_with fail
    have hfin := HFx.out.fin
    obtain ⟨X, hX⟩ : ∃ X, X = ((((((wx.setCell ⟨b2, 0, none⟩ (.int .i64 k)).setCell ⟨b2, 1, none⟩ (.int .i64 d)).setCell ⟨b2, 2, none⟩ (.int .i64 e)).setCell ⟨b2, 3, none⟩ (.int .i64 s)).setCell ⟨b2, 4, none⟩ (.int .i64 z)).setCell ⟨b2, 5, none⟩ (.string b)) := ⟨_, rfl⟩
    rw [← hX] at hfin ⊢
    clear hX
    obtain ⟨⟨x0, x1, x2, x3, x4, x5, hlx⟩, hwx⟩ := hfin
    exact bodyPost_ret (v := .agg #[.int .i64 k, .int .i64 d, .int .i64 e, .int .i64 s, .int .i64 z, .string b]) (by simp [results, Tryd.results28, go_sem, x0, x1, x2, x3, x4, x5]) rfl ⟨⟨_, _, _, _, _, _, hbs, rfl⟩, hwx⟩
  · go_upto_region 14 with fail
    go_wp2_with fail
    refine (below_e _ cb B a len cap c HF6.out.wn.dr 3 (by omega) (by omega)).mono ?_
    rintro en w7 ⟨⟨y, rfl, hy0, hy1⟩, hw⟩
    have HF7 := Lib.hid (HF6.out.draw hw)
    clear hw HF6
    obtain ⟨n, hn⟩ : ∃ n : Nat, 39 + y = (n : Int) := ⟨(39 + y).toNat, by omega⟩
    have hwy : IntKind.i64.wrap (39 + y) = (n : Int) := by rw [hn]; exact IntWalk.i64_in _ (by omega)
    have hn41 : n ≤ 41 := by omega
    obtain ⟨q, hq⟩ : ∃ q : ByteArray, q = ⟨(List.replicate n (0 : UInt8)).toArray⟩ := ⟨_, rfl⟩
    have HQ := Lib.hid hq
    have hqs : q.size ≤ 60 := by rw [hq]; show (List.replicate n (0 : UInt8)).toArray.size ≤ 60; simp; omega
    clear hq
    go_wp2_with (at_make; refine wpList_make_full _ rfl _ _ 22 rfl w7.heap.size 5 i0 (.int .u8 0) 1 Tryd.underlying22 hi hz0 hz1 .i64 .i64 _ _ n rfl rfl rfl rfl (by rw [hz2]; omega) (by unfold maxLen; omega) (Nat.le_refl _) ?_; intro w8 hown1 hg1; rw [zeros_cells] at hown1; have hcv := convert_row (P := Tryd.prog) (l := List.replicate n (0 : UInt8)) 22 9 5 Tryd.underlying22 Tryd.underlying5 Tryd.underlying9 hown1; rw [← HQ.out] at hcv; have HF8 := Lib.hid (HF7.out.low (show Below w7.heap.size w7 w8 from (Below.refl _ _).grown hg1 (Nat.le_refl _) (fun k e => by cases e))); have c5 := HF8.out.f.cell 5 (.string b) rfl; have f5 := HF8.out.f.frozen 5; have HFx := Lib.hid (show Fs B w (w8.setCell ⟨b3, 5, none⟩ (.string q)) cb a len cap c b2 b3 (ff k d e s i q) from HF8.out.set 5 (.string q)); clear hown1 hg1; have c0 := HF8.out.f.cell 0 (.int .i64 k) rfl; have c1 := HF8.out.f.cell 1 (.int .i64 d) rfl; have c2 := HF8.out.f.cell 2 (.int .i64 e) rfl; have c3 := HF8.out.f.cell 3 (.int .i64 s) rfl; have c4 := HF8.out.f.cell 4 (.int .i64 i) rfl; have z0 := HF8.out.z.cell 0 (.int .i64 0) rfl; have g0 := HF8.out.z.frozen 0; have z1 := HF8.out.z.cell 1 (.int .i64 0) rfl; have g1 := HF8.out.z.frozen 1; have z2 := HF8.out.z.cell 2 (.int .i64 0) rfl; have g2 := HF8.out.z.frozen 2; have z3 := HF8.out.z.cell 3 (.int .i64 0) rfl; have g3 := HF8.out.z.frozen 3; have z4 := HF8.out.z.cell 4 (.int .i64 0) rfl; have g4 := HF8.out.z.frozen 4; have z5 := HF8.out.z.cell 5 (.string ⟨#[]⟩) rfl; have g5 := HF8.out.z.frozen 5; have hne23 := HF8.out.ne)
    have hfin := HFx.out.fin
    obtain ⟨X, hX⟩ : ∃ X, X = (((((((w8.setCell ⟨b3, 5, none⟩ (.string q)).setCell ⟨b2, 0, none⟩ (.int .i64 k)).setCell ⟨b2, 1, none⟩ (.int .i64 d)).setCell ⟨b2, 2, none⟩ (.int .i64 e)).setCell ⟨b2, 3, none⟩ (.int .i64 s)).setCell ⟨b2, 4, none⟩ (.int .i64 i)).setCell ⟨b2, 5, none⟩ (.string q)) := ⟨_, rfl⟩
    rw [← hX] at hfin ⊢
    clear hX
    obtain ⟨⟨x0, x1, x2, x3, x4, x5, hlx⟩, hwx⟩ := hfin
    exact bodyPost_ret (v := .agg #[.int .i64 k, .int .i64 d, .int .i64 e, .int .i64 s, .int .i64 i, .string q]) (by simp [results, Tryd.results28, go_sem, x0, x1, x2, x3, x4, x5]) rfl ⟨⟨_, _, _, _, _, _, hqs, rfl⟩, hwx⟩
  · have hx0 : (x == 0) = false := beq_eq_false_iff_ne.2 (by omega)
    have hx1 : (x == 1) = false := beq_eq_false_iff_ne.2 (by omega)
    have hx2 : (x == 2) = false := beq_eq_false_iff_ne.2 (by omega)
    have hx3 : (x == 3) = false := beq_eq_false_iff_ne.2 (by omega)
    have hx4 : (x == 4) = false := beq_eq_false_iff_ne.2 (by omega)
    have hx5 : (x == 5) = false := beq_eq_false_iff_ne.2 (by omega)
    have c0 := HF6.out.f.cell 0 (.int .i64 k) rfl
    have c1 := HF6.out.f.cell 1 (.int .i64 d) rfl
    have c2 := HF6.out.f.cell 2 (.int .i64 e) rfl
    have c3 := HF6.out.f.cell 3 (.int .i64 s) rfl
    have c4 := HF6.out.f.cell 4 (.int .i64 i) rfl
    have c5 := HF6.out.f.cell 5 (.string b) rfl
    have z0 := HF6.out.z.cell 0 (.int .i64 0) rfl
    have g0 := HF6.out.z.frozen 0
    have z1 := HF6.out.z.cell 1 (.int .i64 0) rfl
    have g1 := HF6.out.z.frozen 1
    have z2 := HF6.out.z.cell 2 (.int .i64 0) rfl
    have g2 := HF6.out.z.frozen 2
    have z3 := HF6.out.z.cell 3 (.int .i64 0) rfl
    have g3 := HF6.out.z.frozen 3
    have z4 := HF6.out.z.cell 4 (.int .i64 0) rfl
    have g4 := HF6.out.z.frozen 4
    have z5 := HF6.out.z.cell 5 (.string ⟨#[]⟩) rfl
    have g5 := HF6.out.z.frozen 5
    go_wp2_with fail
    have hfin := HF6.out.fin
    obtain ⟨X, hX⟩ : ∃ X, X = ((((((w6.setCell ⟨b2, 0, none⟩ (.int .i64 k)).setCell ⟨b2, 1, none⟩ (.int .i64 d)).setCell ⟨b2, 2, none⟩ (.int .i64 e)).setCell ⟨b2, 3, none⟩ (.int .i64 s)).setCell ⟨b2, 4, none⟩ (.int .i64 i)).setCell ⟨b2, 5, none⟩ (.string b)) := ⟨_, rfl⟩
    rw [← hX] at hfin ⊢
    clear hX
    obtain ⟨⟨x0, x1, x2, x3, x4, x5, hlx⟩, hwx⟩ := hfin
    exact bodyPost_ret (v := .agg #[.int .i64 k, .int .i64 d, .int .i64 e, .int .i64 s, .int .i64 i, .string b]) (by simp [results, Tryd.results28, go_sem, x0, x1, x2, x3, x4, x5]) rfl ⟨⟨_, _, _, _, _, _, hbs, rfl⟩, hwx⟩

set_option maxRecDepth 100000 in
set_option maxHeartbeats 1000000 in
theorem drawFtx_e (w : World) (a : Option Addr) (len cap : Nat) (c : Nat → Int) (hcode : CodeIs w.heap.size w a len cap c) (hlen : len ≤ 1048576) :
    Calls Tryd.prog 9 #[.slice a len cap] w fun en w' => (∃ (k d e s i : Int) (b : ByteArray), b.size ≤ 60 ∧ en = .returned (.agg #[.int .i64 k, .int .i64 d, .int .i64 e, .int .i64 s, .int .i64 i, .string b])) ∧ Below w.heap.size w w' := by
  have HC := Lib.hid (hcode.below (bOne w (.cells #[.int .i64 0, .int .i64 0, .int .i64 0, .int .i64 0, .int .i64 0, .string ⟨#[]⟩] 26)))
  have HLEN := Lib.hid hlen
  have HZ0 := Lib.hid (Hb.new w zf)
  have HL0 := Lib.hid (bOne w (.cells #[.int .i64 0, .int .i64 0, .int .i64 0, .int .i64 0, .int .i64 0, .string ⟨#[]⟩] 26))
  clear hcode hlen
  go_enter Tryd.func9, Tryd.ntmps9
  go_wp2_with fail
  refine (Drw.new_x _ w.heap.size a len cap c HC.out (by simp)).mono ?_
  rintro en w1 ⟨rfl, hd, hb1⟩
  have HL1 := Lib.hid (low_after HL0.out hb1)
  have HZ1 := Lib.hid (HZ0.out.low hb1)
  have HD := Lib.hid (show DrwE w.heap.size w1 (w.alloc (.cells #[.int .i64 0, .int .i64 0, .int .i64 0, .int .i64 0, .int .i64 0, .string ⟨#[]⟩] 26)).heap.size a len cap c from ⟨_, hd⟩)
  have HNE := Lib.hid (show w.heap.size ≠ (w.alloc (.cells #[.int .i64 0, .int .i64 0, .int .i64 0, .int .i64 0, .int .i64 0, .string ⟨#[]⟩] 26)).heap.size by simp)
  clear hd hb1 HL0 HZ0 HC
  obtain ⟨cb, hcb⟩ : ∃ cb, cb = (w.alloc (.cells #[.int .i64 0, .int .i64 0, .int .i64 0, .int .i64 0, .int .i64 0, .string ⟨#[]⟩] 26)).heap.size := ⟨_, rfl⟩
  rw [← hcb] at HD HNE ⊢
  clear hcb
  go_wp2_with fail
  refine (odd_e _ cb w.heap.size a len cap c HD.out HLEN.out HL1.out.size).mono ?_
  rintro en w2 ⟨⟨k, d, e, s, i, b, hbs, rfl⟩, hw⟩
  have HL2 := Lib.hid (HL1.out.trans (hw.below HL1.out.size))
  have HZ2 := Lib.hid (HZ1.out.grown hw.grown HNE.out)
  obtain ⟨b2, hb2⟩ : ∃ b, b = w.heap.size := ⟨_, rfl⟩
  have HB2 := Lib.hid (show w.heap.size ≤ b2 by omega)
  rw [← hb2] at HZ2 ⊢
  clear hb2 hw HD HL1 HZ1
  have z0 := HZ2.out.cell 0 (.int .i64 0) rfl
  have g0 := HZ2.out.frozen 0
  have z1 := HZ2.out.cell 1 (.int .i64 0) rfl
  have g1 := HZ2.out.frozen 1
  have z2 := HZ2.out.cell 2 (.int .i64 0) rfl
  have g2 := HZ2.out.frozen 2
  have z3 := HZ2.out.cell 3 (.int .i64 0) rfl
  have g3 := HZ2.out.frozen 3
  have z4 := HZ2.out.cell 4 (.int .i64 0) rfl
  have g4 := HZ2.out.frozen 4
  have z5 := HZ2.out.cell 5 (.string ⟨#[]⟩) rfl
  have g5 := HZ2.out.frozen 5
  go_wp2_with fail
  have HX := six_set (B6.at HZ2.out) k d e s i b
  have HXL := six_low HL2.out HB2.out k d e s i b
  obtain ⟨X, hX⟩ : ∃ X, X = ((((((w2.setCell ⟨b2, 0, none⟩ (.int .i64 k)).setCell ⟨b2, 1, none⟩ (.int .i64 d)).setCell ⟨b2, 2, none⟩ (.int .i64 e)).setCell ⟨b2, 3, none⟩ (.int .i64 s)).setCell ⟨b2, 4, none⟩ (.int .i64 i)).setCell ⟨b2, 5, none⟩ (.string b)) := ⟨_, rfl⟩
  rw [← hX] at HX HXL ⊢
  clear hX
  obtain ⟨x0, x1, x2, x3, x4, x5, hlx⟩ := HX
  exact bodyPost_ret (v := .agg #[.int .i64 k, .int .i64 d, .int .i64 e, .int .i64 s, .int .i64 i, .string b]) (by simp [results, Tryd.results9, go_sem, x0, x1, x2, x3, x4, x5]) rfl ⟨⟨_, _, _, _, _, _, hbs, rfl⟩, HXL⟩

end Go.Proofs.YtgbdmpfojiihnaaDoor.Fdw
