/-
  The walks of spec's l06Make and l06Odd.
-/
import Derived.Test.YtjcopkjapnieoaaDoorEvDA
namespace Go.Proofs.YtjcopkjapnieoaaDoor.Evt
open Go.RowKit Go.Proofs.YtjcopkjapnieoaaDoor.Kit Go.Proofs.YtjcopkjapnieoaaDoor.Draw
set_option linter.unusedVariables false
set_option linter.unusedSimpArgs false

theorem texts_3 (W : World) : Txts (W.alloc (.cells #[.string ⟨#[]⟩, .string ⟨#[104, 105]⟩, .string ⟨#[98, 111, 100, 121]⟩] 9)) W.heap.size 3 (fun z => z.size ≤ 4) := txts_new W [.string ⟨#[]⟩, .string ⟨#[104, 105]⟩, .string ⟨#[98, 111, 100, 121]⟩] 9 _ (by
  intro v hv
  simp only [List.mem_cons, List.mem_nil_iff, or_false] at hv
  rcases hv with rfl | rfl | rfl <;> exact ⟨_, rfl, by decide⟩)

set_option maxRecDepth 100000 in
set_option maxHeartbeats 2000000 in
theorem evMake_draw (w : World) (cb B : Nat) (a0 : Option Addr) (len0 cap0 : Nat) (hd : Dr B w cb 45 a0 len0 cap0) (hB : B ≤ w.heap.size) :
    Calls Tryd.prog 21 #[.pointer (some ⟨cb, 0, none⟩)] w fun e w' => (∃ (i d c : Int) (b : ByteArray) (a t r n s : Int), DEv b.size a t r n s ∧ e = .returned (.agg #[.int .i64 i, .int .i64 d, .int .i64 c, .string b, .int .i64 a, .int .i64 t, .int .i64 r, .int .i64 n, .int .i64 s])) ∧ Went B w w' cb 45 a0 len0 cap0 := by
  have hcb := hd.cur.lt
  have HBL := Lib.hid hB
  have HW0 := Lib.hid (hd.refl.alloc (.cells #[.int .i64 0, .int .i64 0, .int .i64 0, .string ⟨#[]⟩, .int .i64 0, .int .i64 0, .int .i64 0, .int .i64 0, .int .i64 0] 25))
  have HZ0 := Lib.hid (Hv.new w #[.int .i64 0, .int .i64 0, .int .i64 0, .string ⟨#[]⟩, .int .i64 0, .int .i64 0, .int .i64 0, .int .i64 0, .int .i64 0])
  obtain ⟨b2, hb2⟩ : ∃ b, b = w.heap.size := ⟨_, rfl⟩
  have HN2 := Lib.hid (show b2 ≠ cb by omega)
  have HB2 := Lib.hid hb2
  clear hd hB
  go_enter Tryd.func21, Tryd.ntmps21
  go_wp2_with fail
  rw [← HB2.out] at HZ0 ⊢
  clear hb2
  refine (below_draw _ cb B a0 len0 cap0 HW0.out.dr 9 (by omega) (by omega)).mono ?_
  rintro e w1 ⟨⟨iq, rfl, hi0, hi1⟩, hw⟩
  have HW1 := Lib.hid (HW0.out.trans hw)
  have HZ1 := Lib.hid (HZ0.out.grown hw.grown HN2.out)
  clear hw HW0 HZ0
  go_wp2_with fail
  refine (below_draw _ cb B a0 len0 cap0 HW1.out.dr 3 (by omega) (by omega)).mono ?_
  rintro e w2 ⟨⟨dq, rfl, hd0, hd1⟩, hw⟩
  have HW2 := Lib.hid (HW1.out.trans hw)
  have HZ2 := Lib.hid (HZ1.out.grown hw.grown HN2.out)
  clear hw HW1 HZ1
  go_wp2_with fail
  refine (below_draw _ cb B a0 len0 cap0 HW2.out.dr 4 (by omega) (by omega)).mono ?_
  rintro e w3 ⟨⟨cq, rfl, hc0, hc1⟩, hw⟩
  have HW3 := Lib.hid (HW2.out.trans hw)
  have HZ3 := Lib.hid (HZ2.out.grown hw.grown HN2.out)
  clear hw HW2 HZ2
  go_wp2_with fail
  have HW3a := Lib.hid (HW3.out.alloc (.cells #[.string ⟨#[]⟩, .string ⟨#[104, 105]⟩, .string ⟨#[98, 111, 100, 121]⟩] 9))
  have HZ3a := Lib.hid (HZ3.out.low (bOne w3 (.cells #[.string ⟨#[]⟩, .string ⟨#[104, 105]⟩, .string ⟨#[98, 111, 100, 121]⟩] 9)))
  refine (pick_draw _ cb B a0 len0 cap0 HW3a.out.dr w3.heap.size 3 (fun z => z.size ≤ 4) (texts_3 w3) (by have := HW3.out.dr.cur.lt; omega) (by omega) (by omega)).mono ?_
  rintro e w4 ⟨⟨b, rfl, hb⟩, hw⟩
  have HW4 := Lib.hid (HW3a.out.trans hw)
  have HZ4 := Lib.hid (HZ3a.out.grown hw.grown HN2.out)
  clear hw HW3 HZ3 HW3a HZ3a
  go_wp2_with fail
  refine (below_draw _ cb B a0 len0 cap0 HW4.out.dr 20 (by omega) (by omega)).mono ?_
  rintro e w5 ⟨⟨a, rfl, ha0, ha1⟩, hw⟩
  have HW5 := Lib.hid (HW4.out.trans hw)
  have HZ5 := Lib.hid (HZ4.out.grown hw.grown HN2.out)
  clear hw HW4 HZ4
  go_wp2_with fail
  refine (below_draw _ cb B a0 len0 cap0 HW5.out.dr 30 (by omega) (by omega)).mono ?_
  rintro e w6 ⟨⟨tq, rfl, ht0, ht1⟩, hw⟩
  have HW6 := Lib.hid (HW5.out.trans hw)
  have HZ6 := Lib.hid (HZ5.out.grown hw.grown HN2.out)
  clear hw HW5 HZ5
  go_wp2_with fail
  refine (below_draw _ cb B a0 len0 cap0 HW6.out.dr 4 (by omega) (by omega)).mono ?_
  rintro e w7 ⟨⟨r, rfl, hr0, hr1⟩, hw⟩
  have HW7 := Lib.hid (HW6.out.trans hw)
  have HZ7 := Lib.hid (HZ6.out.grown hw.grown HN2.out)
  clear hw HW6 HZ6
  go_wp2_with fail
  refine (below_draw _ cb B a0 len0 cap0 HW7.out.dr 30 (by omega) (by omega)).mono ?_
  rintro e w8 ⟨⟨n, rfl, hn0, hn1⟩, hw⟩
  have HW8 := Lib.hid (HW7.out.trans hw)
  have HZ8 := Lib.hid (HZ7.out.grown hw.grown HN2.out)
  clear hw HW7 HZ7
  go_wp2_with fail
  refine (below_draw _ cb B a0 len0 cap0 HW8.out.dr 4 (by omega) (by omega)).mono ?_
  rintro e w9 ⟨⟨s, rfl, hs0, hs1⟩, hw⟩
  have HW9 := Lib.hid (HW8.out.trans hw)
  have HZ9 := Lib.hid (HZ8.out.grown hw.grown HN2.out)
  clear hw HW8 HZ8
  have z0 := HZ9.out.cell 0 (.int .i64 0) rfl
  have g0 := HZ9.out.frozen 0
  have z1 := HZ9.out.cell 1 (.int .i64 0) rfl
  have g1 := HZ9.out.frozen 1
  have z2 := HZ9.out.cell 2 (.int .i64 0) rfl
  have g2 := HZ9.out.frozen 2
  have z3 := HZ9.out.cell 3 (.string ⟨#[]⟩) rfl
  have g3 := HZ9.out.frozen 3
  have z4 := HZ9.out.cell 4 (.int .i64 0) rfl
  have g4 := HZ9.out.frozen 4
  have z5 := HZ9.out.cell 5 (.int .i64 0) rfl
  have g5 := HZ9.out.frozen 5
  have z6 := HZ9.out.cell 6 (.int .i64 0) rfl
  have g6 := HZ9.out.frozen 6
  have z7 := HZ9.out.cell 7 (.int .i64 0) rfl
  have g7 := HZ9.out.frozen 7
  have z8 := HZ9.out.cell 8 (.int .i64 0) rfl
  have g8 := HZ9.out.frozen 8
  go_wp2_with fail
  have hfx := HZ9.out.fin (1 + iq) (1 + dq) (1 + cq) b a (1 + tq) r n s
  have hwx := HW9.out
  obtain ⟨X, hX⟩ : ∃ X, X = (((((((((w9.setCell ⟨b2, 0, none⟩ (.int .i64 (1 + iq))).setCell ⟨b2, 1, none⟩ (.int .i64 (1 + dq))).setCell ⟨b2, 2, none⟩ (.int .i64 (1 + cq))).setCell ⟨b2, 3, none⟩ (.string b)).setCell ⟨b2, 4, none⟩ (.int .i64 a)).setCell ⟨b2, 5, none⟩ (.int .i64 (1 + tq))).setCell ⟨b2, 6, none⟩ (.int .i64 r)).setCell ⟨b2, 7, none⟩ (.int .i64 n)).setCell ⟨b2, 8, none⟩ (.int .i64 s)) := ⟨_, rfl⟩
  have hwX : Went B w X cb 45 a0 len0 cap0 := by
    have hg2 : w.heap.size ≤ b2 := by have := HB2.out; omega
    have hB2 := Nat.le_trans HBL.out hg2
    rw [hX]
    exact went_set (went_set (went_set (went_set (went_set (went_set (went_set (went_set (went_set hwx hB2 hg2 HN2.out 0 _) hB2 hg2 HN2.out 1 _) hB2 hg2 HN2.out 2 _) hB2 hg2 HN2.out 3 _) hB2 hg2 HN2.out 4 _) hB2 hg2 HN2.out 5 _) hB2 hg2 HN2.out 6 _) hB2 hg2 HN2.out 7 _) hB2 hg2 HN2.out 8 _
  rw [← hX] at hfx ⊢
  clear hX
  obtain ⟨x0, x1, x2, x3, x4, x5, x6, x7, x8, hlx⟩ := hfx.box
  exact bodyPost_ret (v := .agg #[.int .i64 (1 + iq), .int .i64 (1 + dq), .int .i64 (1 + cq), .string b, .int .i64 a, .int .i64 (1 + tq), .int .i64 r, .int .i64 n, .int .i64 s]) (by simp [results, Tryd.results21, go_sem, x0, x1, x2, x3, x4, x5, x6, x7, x8]) rfl ⟨⟨_, _, _, _, _, _, _, _, _, by unfold DEv; omega, rfl⟩, hwX⟩
theorem nums_i (W : World) : Nums (W.alloc (.cells #[.int .i64 0, .int .i64 9999, .int .i64 10000] 3)) W.heap.size 3 (fun _ => True) := nums_new W [.int .i64 0, .int .i64 9999, .int .i64 10000] 3 _ (by
  intro v hv
  simp only [List.mem_cons, List.mem_nil_iff, or_false] at hv
  rcases hv with rfl | rfl | rfl <;> exact ⟨_, rfl, by simp⟩)
theorem nums_c (W : World) : Nums (W.alloc (.cells #[.int .i64 0, .int .i64 9, .int .i64 10] 3)) W.heap.size 3 (fun _ => True) := nums_new W [.int .i64 0, .int .i64 9, .int .i64 10] 3 _ (by
  intro v hv
  simp only [List.mem_cons, List.mem_nil_iff, or_false] at hv
  rcases hv with rfl | rfl | rfl <;> exact ⟨_, rfl, by simp⟩)
theorem nums_r (W : World) : Nums (W.alloc (.cells #[.int .i64 (-1), .int .i64 99999, .int .i64 100000, .int .i64 100001] 3)) W.heap.size 4 (fun z => -1 ≤ z ∧ z ≤ 100001) := nums_new W [.int .i64 (-1), .int .i64 99999, .int .i64 100000, .int .i64 100001] 3 _ (by
  intro v hv
  simp only [List.mem_cons, List.mem_nil_iff, or_false] at hv
  rcases hv with rfl | rfl | rfl | rfl <;> exact ⟨_, rfl, by simp⟩)
theorem nums_s (W : World) : Nums (W.alloc (.cells #[.int .i64 (-1), .int .i64 4] 3)) W.heap.size 2 (fun z => -1 ≤ z ∧ z ≤ 4) := nums_new W [.int .i64 (-1), .int .i64 4] 3 _ (by
  intro v hv
  simp only [List.mem_cons, List.mem_nil_iff, or_false] at hv
  rcases hv with rfl | rfl <;> exact ⟨_, rfl, by simp⟩)
theorem nums_t (W : World) : Nums (W.alloc (.cells #[.int .i64 0, .int .i64 1000000, .int .i64 1000001] 3)) W.heap.size 3 (fun z => 0 ≤ z ∧ z ≤ 1000001) := nums_new W [.int .i64 0, .int .i64 1000000, .int .i64 1000001] 3 _ (by
  intro v hv
  simp only [List.mem_cons, List.mem_nil_iff, or_false] at hv
  rcases hv with rfl | rfl | rfl <;> exact ⟨_, rfl, by simp⟩)
theorem nums_n (W : World) : Nums (W.alloc (.cells #[.int .i64 (-1), .int .i64 2000000000, .int .i64 2000000001] 3)) W.heap.size 3 (fun z => -1 ≤ z ∧ z ≤ 2000000001) := nums_new W [.int .i64 (-1), .int .i64 2000000000, .int .i64 2000000001] 3 _ (by
  intro v hv
  simp only [List.mem_cons, List.mem_nil_iff, or_false] at hv
  rcases hv with rfl | rfl | rfl <;> exact ⟨_, rfl, by simp⟩)

set_option maxRecDepth 100000 in
set_option maxHeartbeats 4000000 in
theorem evOdd_draw (w : World) (cb B : Nat) (a0 : Option Addr) (len0 cap0 : Nat) (hd : Dr B w cb 45 a0 len0 cap0) (hB : B ≤ w.heap.size) :
    Calls Tryd.prog 15 #[.pointer (some ⟨cb, 0, none⟩)] w fun e w' => (∃ (i d c : Int) (b : ByteArray) (a t r n s : Int), DEv b.size a t r n s ∧ e = .returned (.agg #[.int .i64 i, .int .i64 d, .int .i64 c, .string b, .int .i64 a, .int .i64 t, .int .i64 r, .int .i64 n, .int .i64 s])) ∧ Went B w w' cb 45 a0 len0 cap0 := by
  have hcb := hd.cur.lt
  obtain ⟨i0, hi, hz0, hz1, hz2⟩ := info_parts infoU8
  have HBL := Lib.hid hB
  have HW0 := Lib.hid (hd.refl.alloc (.cells #[.int .i64 0, .int .i64 0, .int .i64 0, .string ⟨#[]⟩, .int .i64 0, .int .i64 0, .int .i64 0, .int .i64 0, .int .i64 0] 25))
  have HZ0 := Lib.hid (Hv.new w #[.int .i64 0, .int .i64 0, .int .i64 0, .string ⟨#[]⟩, .int .i64 0, .int .i64 0, .int .i64 0, .int .i64 0, .int .i64 0])
  obtain ⟨b2, hb2⟩ : ∃ b, b = w.heap.size := ⟨_, rfl⟩
  have HN2 := Lib.hid (show b2 ≠ cb by omega)
  have HB2 := Lib.hid hb2
  clear hd hB
  go_enter Tryd.func15, Tryd.ntmps15
  go_wp2_with fail
  rw [← HB2.out] at HZ0 ⊢
  clear hb2
  refine (evMake_draw _ cb B a0 len0 cap0 HW0.out.dr (Nat.le_trans HBL.out HW0.out.grown.size)).mono ?_
  rintro e w4 ⟨⟨i, d, c, b, a, t, r, n, s, hde, rfl⟩, hw⟩
  have HDE := Lib.hid hde
  have HW4 := Lib.hid (HW0.out.trans hw)
  have HZ4 := Lib.hid (HZ0.out.grown hw.grown HN2.out)
  clear hw HW0 HZ0 hde
  have HF5 := Lib.hid (show Es B w (w4.alloc (.cells #[.int .i64 i, .int .i64 d, .int .i64 c, .string b, .int .i64 a, .int .i64 t, .int .i64 r, .int .i64 n, .int .i64 s] 25)) cb a0 len0 cap0 b2 w4.heap.size #[.int .i64 i, .int .i64 d, .int .i64 c, .string b, .int .i64 a, .int .i64 t, .int .i64 r, .int .i64 n, .int .i64 s] from by
    have h1 := HW4.out.grown.size
    have h2 := HZ4.out.lt
    have h3 := HB2.out
    exact ⟨HW4.out.alloc _, HBL.out, HZ4.out.low (bOne _ _), Hv.new _ _, by omega, by omega, HN2.out, by omega, by omega⟩)
  obtain ⟨b3, hb3⟩ : ∃ b, b = w4.heap.size := ⟨_, rfl⟩
  obtain ⟨w5, hw5⟩ : ∃ w5, w5 = w4.alloc (.cells #[.int .i64 i, .int .i64 d, .int .i64 c, .string b, .int .i64 a, .int .i64 t, .int .i64 r, .int .i64 n, .int .i64 s] 25) := ⟨_, rfl⟩
  go_upto_region 2 with fail
  rw [← hb3] at HF5 ⊢
  rw [← hw5] at HF5 ⊢
  clear hw5 hb3 HW4 HZ4
  go_wp2_with fail
  refine (below_draw _ cb B a0 len0 cap0 HF5.out.wn.dr 14 (by omega) (by omega)).mono ?_
  rintro e w6 ⟨⟨x, rfl, hx0, hx1⟩, hw⟩
  have HF6 := Lib.hid (HF5.out.draw hw)
  clear hw HF5
  rcases (show x = 0 ∨ x = 1 ∨ x = 2 ∨ x = 3 ∨ x = 4 ∨ x = 5 ∨ x = 6 ∨ 7 ≤ x by omega) with rfl | rfl | rfl | rfl | rfl | rfl | rfl | hx
  · go_wp2_with fail
    have HF7 := Lib.hid (HF6.out.low (bOne w6 (.cells #[.int .i64 0, .int .i64 9999, .int .i64 10000] 3)))
    refine (pickInt_draw _ cb B a0 len0 cap0 HF7.out.wn.dr w6.heap.size 3 (fun _ => True) (nums_i w6) (by have := HF6.out.wn.dr.cur.lt; omega) (by simp) (by omega) (by omega)).mono ?_
    rintro e w8 ⟨⟨z, rfl, hz⟩, hw⟩
    have HF8 := Lib.hid (HF7.out.draw hw)
    have HZZ := Lib.hid hz
    clear hw HF7 HF6 hz
    have c0 := HF8.out.f.cell 0 (.int .i64 i) rfl
    have f0 := HF8.out.f.frozen 0
    have HFx := Lib.hid (show Es B w (w8.setCell ⟨b3, 0, none⟩ (.int .i64 z)) cb a0 len0 cap0 b2 b3 #[.int .i64 z, .int .i64 d, .int .i64 c, .string b, .int .i64 a, .int .i64 t, .int .i64 r, .int .i64 n, .int .i64 s] from HF8.out.set 0 (.int .i64 z))
    obtain ⟨wx, hwx⟩ : ∃ wx, wx = w8.setCell ⟨b3, 0, none⟩ (.int .i64 z) := ⟨_, rfl⟩
    go_upto_region 17 with fail
    rw [← hwx] at HFx ⊢
    clear hwx HF8 c0 f0
    have c0 := HFx.out.f.cell 0 (.int .i64 z) rfl
    have c1 := HFx.out.f.cell 1 (.int .i64 d) rfl
    have c2 := HFx.out.f.cell 2 (.int .i64 c) rfl
    have c3 := HFx.out.f.cell 3 (.string b) rfl
    have c4 := HFx.out.f.cell 4 (.int .i64 a) rfl
    have c5 := HFx.out.f.cell 5 (.int .i64 t) rfl
    have c6 := HFx.out.f.cell 6 (.int .i64 r) rfl
    have c7 := HFx.out.f.cell 7 (.int .i64 n) rfl
    have c8 := HFx.out.f.cell 8 (.int .i64 s) rfl
    have z0 := HFx.out.z.cell 0 (.int .i64 0) rfl
    have g0 := HFx.out.z.frozen 0
    have z1 := HFx.out.z.cell 1 (.int .i64 0) rfl
    have g1 := HFx.out.z.frozen 1
    have z2 := HFx.out.z.cell 2 (.int .i64 0) rfl
    have g2 := HFx.out.z.frozen 2
    have z3 := HFx.out.z.cell 3 (.string ⟨#[]⟩) rfl
    have g3 := HFx.out.z.frozen 3
    have z4 := HFx.out.z.cell 4 (.int .i64 0) rfl
    have g4 := HFx.out.z.frozen 4
    have z5 := HFx.out.z.cell 5 (.int .i64 0) rfl
    have g5 := HFx.out.z.frozen 5
    have z6 := HFx.out.z.cell 6 (.int .i64 0) rfl
    have g6 := HFx.out.z.frozen 6
    have z7 := HFx.out.z.cell 7 (.int .i64 0) rfl
    have g7 := HFx.out.z.frozen 7
    have z8 := HFx.out.z.cell 8 (.int .i64 0) rfl
    have g8 := HFx.out.z.frozen 8
    go_wp2_with fail
    have hfin := HFx.out.fin z d c b a t r n s
    obtain ⟨X, hX⟩ : ∃ X, X = (((((((((wx.setCell ⟨b2, 0, none⟩ (.int .i64 z)).setCell ⟨b2, 1, none⟩ (.int .i64 d)).setCell ⟨b2, 2, none⟩ (.int .i64 c)).setCell ⟨b2, 3, none⟩ (.string b)).setCell ⟨b2, 4, none⟩ (.int .i64 a)).setCell ⟨b2, 5, none⟩ (.int .i64 t)).setCell ⟨b2, 6, none⟩ (.int .i64 r)).setCell ⟨b2, 7, none⟩ (.int .i64 n)).setCell ⟨b2, 8, none⟩ (.int .i64 s)) := ⟨_, rfl⟩
    rw [← hX] at hfin ⊢
    clear hX
    obtain ⟨hfx, hwx⟩ := hfin
    obtain ⟨x0, x1, x2, x3, x4, x5, x6, x7, x8, hlx⟩ := hfx.box
    exact bodyPost_ret (v := .agg #[.int .i64 z, .int .i64 d, .int .i64 c, .string b, .int .i64 a, .int .i64 t, .int .i64 r, .int .i64 n, .int .i64 s]) (by simp [results, Tryd.results15, go_sem, x0, x1, x2, x3, x4, x5, x6, x7, x8]) rfl ⟨⟨_, _, _, _, _, _, _, _, _, by have h1 := HDE.out; have h2 := HZZ.out; unfold DEv at h1 ⊢; omega, rfl⟩, hwx⟩
  · go_wp2_with fail
    have HF7 := Lib.hid (HF6.out.low (bOne w6 (.cells #[.int .i64 0, .int .i64 9, .int .i64 10] 3)))
    refine (pickInt_draw _ cb B a0 len0 cap0 HF7.out.wn.dr w6.heap.size 3 (fun _ => True) (nums_c w6) (by have := HF6.out.wn.dr.cur.lt; omega) (by simp) (by omega) (by omega)).mono ?_
    rintro e w8 ⟨⟨z, rfl, hz⟩, hw⟩
    have HF8 := Lib.hid (HF7.out.draw hw)
    have HZZ := Lib.hid hz
    clear hw HF7 HF6 hz
    have c2 := HF8.out.f.cell 2 (.int .i64 c) rfl
    have f2 := HF8.out.f.frozen 2
    have HFx := Lib.hid (show Es B w (w8.setCell ⟨b3, 2, none⟩ (.int .i64 z)) cb a0 len0 cap0 b2 b3 #[.int .i64 i, .int .i64 d, .int .i64 z, .string b, .int .i64 a, .int .i64 t, .int .i64 r, .int .i64 n, .int .i64 s] from HF8.out.set 2 (.int .i64 z))
    obtain ⟨wx, hwx⟩ : ∃ wx, wx = w8.setCell ⟨b3, 2, none⟩ (.int .i64 z) := ⟨_, rfl⟩
    go_upto_region 17 with fail
    rw [← hwx] at HFx ⊢
    clear hwx HF8 c2 f2
    have c0 := HFx.out.f.cell 0 (.int .i64 i) rfl
    have c1 := HFx.out.f.cell 1 (.int .i64 d) rfl
    have c2 := HFx.out.f.cell 2 (.int .i64 z) rfl
    have c3 := HFx.out.f.cell 3 (.string b) rfl
    have c4 := HFx.out.f.cell 4 (.int .i64 a) rfl
    have c5 := HFx.out.f.cell 5 (.int .i64 t) rfl
    have c6 := HFx.out.f.cell 6 (.int .i64 r) rfl
    have c7 := HFx.out.f.cell 7 (.int .i64 n) rfl
    have c8 := HFx.out.f.cell 8 (.int .i64 s) rfl
    have z0 := HFx.out.z.cell 0 (.int .i64 0) rfl
    have g0 := HFx.out.z.frozen 0
    have z1 := HFx.out.z.cell 1 (.int .i64 0) rfl
    have g1 := HFx.out.z.frozen 1
    have z2 := HFx.out.z.cell 2 (.int .i64 0) rfl
    have g2 := HFx.out.z.frozen 2
    have z3 := HFx.out.z.cell 3 (.string ⟨#[]⟩) rfl
    have g3 := HFx.out.z.frozen 3
    have z4 := HFx.out.z.cell 4 (.int .i64 0) rfl
    have g4 := HFx.out.z.frozen 4
    have z5 := HFx.out.z.cell 5 (.int .i64 0) rfl
    have g5 := HFx.out.z.frozen 5
    have z6 := HFx.out.z.cell 6 (.int .i64 0) rfl
    have g6 := HFx.out.z.frozen 6
    have z7 := HFx.out.z.cell 7 (.int .i64 0) rfl
    have g7 := HFx.out.z.frozen 7
    have z8 := HFx.out.z.cell 8 (.int .i64 0) rfl
    have g8 := HFx.out.z.frozen 8
    go_wp2_with fail
    have hfin := HFx.out.fin i d z b a t r n s
    obtain ⟨X, hX⟩ : ∃ X, X = (((((((((wx.setCell ⟨b2, 0, none⟩ (.int .i64 i)).setCell ⟨b2, 1, none⟩ (.int .i64 d)).setCell ⟨b2, 2, none⟩ (.int .i64 z)).setCell ⟨b2, 3, none⟩ (.string b)).setCell ⟨b2, 4, none⟩ (.int .i64 a)).setCell ⟨b2, 5, none⟩ (.int .i64 t)).setCell ⟨b2, 6, none⟩ (.int .i64 r)).setCell ⟨b2, 7, none⟩ (.int .i64 n)).setCell ⟨b2, 8, none⟩ (.int .i64 s)) := ⟨_, rfl⟩
    rw [← hX] at hfin ⊢
    clear hX
    obtain ⟨hfx, hwx⟩ := hfin
    obtain ⟨x0, x1, x2, x3, x4, x5, x6, x7, x8, hlx⟩ := hfx.box
    exact bodyPost_ret (v := .agg #[.int .i64 i, .int .i64 d, .int .i64 z, .string b, .int .i64 a, .int .i64 t, .int .i64 r, .int .i64 n, .int .i64 s]) (by simp [results, Tryd.results15, go_sem, x0, x1, x2, x3, x4, x5, x6, x7, x8]) rfl ⟨⟨_, _, _, _, _, _, _, _, _, by have h1 := HDE.out; have h2 := HZZ.out; unfold DEv at h1 ⊢; omega, rfl⟩, hwx⟩
  · go_wp2_with fail
    have HF7 := Lib.hid (HF6.out.low (bOne w6 (.cells #[.int .i64 (-1), .int .i64 99999, .int .i64 100000, .int .i64 100001] 3)))
    refine (pickInt_draw _ cb B a0 len0 cap0 HF7.out.wn.dr w6.heap.size 4 (fun z => -1 ≤ z ∧ z ≤ 100001) (nums_r w6) (by have := HF6.out.wn.dr.cur.lt; omega) (by simp) (by omega) (by omega)).mono ?_
    rintro e w8 ⟨⟨z, rfl, hz⟩, hw⟩
    have HF8 := Lib.hid (HF7.out.draw hw)
    have HZZ := Lib.hid hz
    clear hw HF7 HF6 hz
    have c6 := HF8.out.f.cell 6 (.int .i64 r) rfl
    have f6 := HF8.out.f.frozen 6
    have HFx := Lib.hid (show Es B w (w8.setCell ⟨b3, 6, none⟩ (.int .i64 z)) cb a0 len0 cap0 b2 b3 #[.int .i64 i, .int .i64 d, .int .i64 c, .string b, .int .i64 a, .int .i64 t, .int .i64 z, .int .i64 n, .int .i64 s] from HF8.out.set 6 (.int .i64 z))
    obtain ⟨wx, hwx⟩ : ∃ wx, wx = w8.setCell ⟨b3, 6, none⟩ (.int .i64 z) := ⟨_, rfl⟩
    go_upto_region 17 with fail
    rw [← hwx] at HFx ⊢
    clear hwx HF8 c6 f6
    have c0 := HFx.out.f.cell 0 (.int .i64 i) rfl
    have c1 := HFx.out.f.cell 1 (.int .i64 d) rfl
    have c2 := HFx.out.f.cell 2 (.int .i64 c) rfl
    have c3 := HFx.out.f.cell 3 (.string b) rfl
    have c4 := HFx.out.f.cell 4 (.int .i64 a) rfl
    have c5 := HFx.out.f.cell 5 (.int .i64 t) rfl
    have c6 := HFx.out.f.cell 6 (.int .i64 z) rfl
    have c7 := HFx.out.f.cell 7 (.int .i64 n) rfl
    have c8 := HFx.out.f.cell 8 (.int .i64 s) rfl
    have z0 := HFx.out.z.cell 0 (.int .i64 0) rfl
    have g0 := HFx.out.z.frozen 0
    have z1 := HFx.out.z.cell 1 (.int .i64 0) rfl
    have g1 := HFx.out.z.frozen 1
    have z2 := HFx.out.z.cell 2 (.int .i64 0) rfl
    have g2 := HFx.out.z.frozen 2
    have z3 := HFx.out.z.cell 3 (.string ⟨#[]⟩) rfl
    have g3 := HFx.out.z.frozen 3
    have z4 := HFx.out.z.cell 4 (.int .i64 0) rfl
    have g4 := HFx.out.z.frozen 4
    have z5 := HFx.out.z.cell 5 (.int .i64 0) rfl
    have g5 := HFx.out.z.frozen 5
    have z6 := HFx.out.z.cell 6 (.int .i64 0) rfl
    have g6 := HFx.out.z.frozen 6
    have z7 := HFx.out.z.cell 7 (.int .i64 0) rfl
    have g7 := HFx.out.z.frozen 7
    have z8 := HFx.out.z.cell 8 (.int .i64 0) rfl
    have g8 := HFx.out.z.frozen 8
    go_wp2_with fail
    have hfin := HFx.out.fin i d c b a t z n s
    obtain ⟨X, hX⟩ : ∃ X, X = (((((((((wx.setCell ⟨b2, 0, none⟩ (.int .i64 i)).setCell ⟨b2, 1, none⟩ (.int .i64 d)).setCell ⟨b2, 2, none⟩ (.int .i64 c)).setCell ⟨b2, 3, none⟩ (.string b)).setCell ⟨b2, 4, none⟩ (.int .i64 a)).setCell ⟨b2, 5, none⟩ (.int .i64 t)).setCell ⟨b2, 6, none⟩ (.int .i64 z)).setCell ⟨b2, 7, none⟩ (.int .i64 n)).setCell ⟨b2, 8, none⟩ (.int .i64 s)) := ⟨_, rfl⟩
    rw [← hX] at hfin ⊢
    clear hX
    obtain ⟨hfx, hwx⟩ := hfin
    obtain ⟨x0, x1, x2, x3, x4, x5, x6, x7, x8, hlx⟩ := hfx.box
    exact bodyPost_ret (v := .agg #[.int .i64 i, .int .i64 d, .int .i64 c, .string b, .int .i64 a, .int .i64 t, .int .i64 z, .int .i64 n, .int .i64 s]) (by simp [results, Tryd.results15, go_sem, x0, x1, x2, x3, x4, x5, x6, x7, x8]) rfl ⟨⟨_, _, _, _, _, _, _, _, _, by have h1 := HDE.out; have h2 := HZZ.out; unfold DEv at h1 ⊢; omega, rfl⟩, hwx⟩
  · go_wp2_with fail
    have HF7 := Lib.hid (HF6.out.low (bOne w6 (.cells #[.int .i64 (-1), .int .i64 4] 3)))
    refine (pickInt_draw _ cb B a0 len0 cap0 HF7.out.wn.dr w6.heap.size 2 (fun z => -1 ≤ z ∧ z ≤ 4) (nums_s w6) (by have := HF6.out.wn.dr.cur.lt; omega) (by simp) (by omega) (by omega)).mono ?_
    rintro e w8 ⟨⟨z, rfl, hz⟩, hw⟩
    have HF8 := Lib.hid (HF7.out.draw hw)
    have HZZ := Lib.hid hz
    clear hw HF7 HF6 hz
    have c8 := HF8.out.f.cell 8 (.int .i64 s) rfl
    have f8 := HF8.out.f.frozen 8
    have HFx := Lib.hid (show Es B w (w8.setCell ⟨b3, 8, none⟩ (.int .i64 z)) cb a0 len0 cap0 b2 b3 #[.int .i64 i, .int .i64 d, .int .i64 c, .string b, .int .i64 a, .int .i64 t, .int .i64 r, .int .i64 n, .int .i64 z] from HF8.out.set 8 (.int .i64 z))
    obtain ⟨wx, hwx⟩ : ∃ wx, wx = w8.setCell ⟨b3, 8, none⟩ (.int .i64 z) := ⟨_, rfl⟩
    go_upto_region 17 with fail
    rw [← hwx] at HFx ⊢
    clear hwx HF8 c8 f8
    have c0 := HFx.out.f.cell 0 (.int .i64 i) rfl
    have c1 := HFx.out.f.cell 1 (.int .i64 d) rfl
    have c2 := HFx.out.f.cell 2 (.int .i64 c) rfl
    have c3 := HFx.out.f.cell 3 (.string b) rfl
    have c4 := HFx.out.f.cell 4 (.int .i64 a) rfl
    have c5 := HFx.out.f.cell 5 (.int .i64 t) rfl
    have c6 := HFx.out.f.cell 6 (.int .i64 r) rfl
    have c7 := HFx.out.f.cell 7 (.int .i64 n) rfl
    have c8 := HFx.out.f.cell 8 (.int .i64 z) rfl
    have z0 := HFx.out.z.cell 0 (.int .i64 0) rfl
    have g0 := HFx.out.z.frozen 0
    have z1 := HFx.out.z.cell 1 (.int .i64 0) rfl
    have g1 := HFx.out.z.frozen 1
    have z2 := HFx.out.z.cell 2 (.int .i64 0) rfl
    have g2 := HFx.out.z.frozen 2
    have z3 := HFx.out.z.cell 3 (.string ⟨#[]⟩) rfl
    have g3 := HFx.out.z.frozen 3
    have z4 := HFx.out.z.cell 4 (.int .i64 0) rfl
    have g4 := HFx.out.z.frozen 4
    have z5 := HFx.out.z.cell 5 (.int .i64 0) rfl
    have g5 := HFx.out.z.frozen 5
    have z6 := HFx.out.z.cell 6 (.int .i64 0) rfl
    have g6 := HFx.out.z.frozen 6
    have z7 := HFx.out.z.cell 7 (.int .i64 0) rfl
    have g7 := HFx.out.z.frozen 7
    have z8 := HFx.out.z.cell 8 (.int .i64 0) rfl
    have g8 := HFx.out.z.frozen 8
    go_wp2_with fail
    have hfin := HFx.out.fin i d c b a t r n z
    obtain ⟨X, hX⟩ : ∃ X, X = (((((((((wx.setCell ⟨b2, 0, none⟩ (.int .i64 i)).setCell ⟨b2, 1, none⟩ (.int .i64 d)).setCell ⟨b2, 2, none⟩ (.int .i64 c)).setCell ⟨b2, 3, none⟩ (.string b)).setCell ⟨b2, 4, none⟩ (.int .i64 a)).setCell ⟨b2, 5, none⟩ (.int .i64 t)).setCell ⟨b2, 6, none⟩ (.int .i64 r)).setCell ⟨b2, 7, none⟩ (.int .i64 n)).setCell ⟨b2, 8, none⟩ (.int .i64 z)) := ⟨_, rfl⟩
    rw [← hX] at hfin ⊢
    clear hX
    obtain ⟨hfx, hwx⟩ := hfin
    obtain ⟨x0, x1, x2, x3, x4, x5, x6, x7, x8, hlx⟩ := hfx.box
    exact bodyPost_ret (v := .agg #[.int .i64 i, .int .i64 d, .int .i64 c, .string b, .int .i64 a, .int .i64 t, .int .i64 r, .int .i64 n, .int .i64 z]) (by simp [results, Tryd.results15, go_sem, x0, x1, x2, x3, x4, x5, x6, x7, x8]) rfl ⟨⟨_, _, _, _, _, _, _, _, _, by have h1 := HDE.out; have h2 := HZZ.out; unfold DEv at h1 ⊢; omega, rfl⟩, hwx⟩
  · go_wp2_with fail
    have HF7 := Lib.hid (HF6.out.low (bOne w6 (.cells #[.int .i64 0, .int .i64 1000000, .int .i64 1000001] 3)))
    refine (pickInt_draw _ cb B a0 len0 cap0 HF7.out.wn.dr w6.heap.size 3 (fun z => 0 ≤ z ∧ z ≤ 1000001) (nums_t w6) (by have := HF6.out.wn.dr.cur.lt; omega) (by simp) (by omega) (by omega)).mono ?_
    rintro e w8 ⟨⟨z, rfl, hz⟩, hw⟩
    have HF8 := Lib.hid (HF7.out.draw hw)
    have HZZ := Lib.hid hz
    clear hw HF7 HF6 hz
    have c5 := HF8.out.f.cell 5 (.int .i64 t) rfl
    have f5 := HF8.out.f.frozen 5
    have HFx := Lib.hid (show Es B w (w8.setCell ⟨b3, 5, none⟩ (.int .i64 z)) cb a0 len0 cap0 b2 b3 #[.int .i64 i, .int .i64 d, .int .i64 c, .string b, .int .i64 a, .int .i64 z, .int .i64 r, .int .i64 n, .int .i64 s] from HF8.out.set 5 (.int .i64 z))
    obtain ⟨wx, hwx⟩ : ∃ wx, wx = w8.setCell ⟨b3, 5, none⟩ (.int .i64 z) := ⟨_, rfl⟩
    go_upto_region 17 with fail
    rw [← hwx] at HFx ⊢
    clear hwx HF8 c5 f5
    have c0 := HFx.out.f.cell 0 (.int .i64 i) rfl
    have c1 := HFx.out.f.cell 1 (.int .i64 d) rfl
    have c2 := HFx.out.f.cell 2 (.int .i64 c) rfl
    have c3 := HFx.out.f.cell 3 (.string b) rfl
    have c4 := HFx.out.f.cell 4 (.int .i64 a) rfl
    have c5 := HFx.out.f.cell 5 (.int .i64 z) rfl
    have c6 := HFx.out.f.cell 6 (.int .i64 r) rfl
    have c7 := HFx.out.f.cell 7 (.int .i64 n) rfl
    have c8 := HFx.out.f.cell 8 (.int .i64 s) rfl
    have z0 := HFx.out.z.cell 0 (.int .i64 0) rfl
    have g0 := HFx.out.z.frozen 0
    have z1 := HFx.out.z.cell 1 (.int .i64 0) rfl
    have g1 := HFx.out.z.frozen 1
    have z2 := HFx.out.z.cell 2 (.int .i64 0) rfl
    have g2 := HFx.out.z.frozen 2
    have z3 := HFx.out.z.cell 3 (.string ⟨#[]⟩) rfl
    have g3 := HFx.out.z.frozen 3
    have z4 := HFx.out.z.cell 4 (.int .i64 0) rfl
    have g4 := HFx.out.z.frozen 4
    have z5 := HFx.out.z.cell 5 (.int .i64 0) rfl
    have g5 := HFx.out.z.frozen 5
    have z6 := HFx.out.z.cell 6 (.int .i64 0) rfl
    have g6 := HFx.out.z.frozen 6
    have z7 := HFx.out.z.cell 7 (.int .i64 0) rfl
    have g7 := HFx.out.z.frozen 7
    have z8 := HFx.out.z.cell 8 (.int .i64 0) rfl
    have g8 := HFx.out.z.frozen 8
    go_wp2_with fail
    have hfin := HFx.out.fin i d c b a z r n s
    obtain ⟨X, hX⟩ : ∃ X, X = (((((((((wx.setCell ⟨b2, 0, none⟩ (.int .i64 i)).setCell ⟨b2, 1, none⟩ (.int .i64 d)).setCell ⟨b2, 2, none⟩ (.int .i64 c)).setCell ⟨b2, 3, none⟩ (.string b)).setCell ⟨b2, 4, none⟩ (.int .i64 a)).setCell ⟨b2, 5, none⟩ (.int .i64 z)).setCell ⟨b2, 6, none⟩ (.int .i64 r)).setCell ⟨b2, 7, none⟩ (.int .i64 n)).setCell ⟨b2, 8, none⟩ (.int .i64 s)) := ⟨_, rfl⟩
    rw [← hX] at hfin ⊢
    clear hX
    obtain ⟨hfx, hwx⟩ := hfin
    obtain ⟨x0, x1, x2, x3, x4, x5, x6, x7, x8, hlx⟩ := hfx.box
    exact bodyPost_ret (v := .agg #[.int .i64 i, .int .i64 d, .int .i64 c, .string b, .int .i64 a, .int .i64 z, .int .i64 r, .int .i64 n, .int .i64 s]) (by simp [results, Tryd.results15, go_sem, x0, x1, x2, x3, x4, x5, x6, x7, x8]) rfl ⟨⟨_, _, _, _, _, _, _, _, _, by have h1 := HDE.out; have h2 := HZZ.out; unfold DEv at h1 ⊢; omega, rfl⟩, hwx⟩
  · go_upto_region 14 with fail
    go_wp2_with fail
    refine (below_draw _ cb B a0 len0 cap0 HF6.out.wn.dr 2 (by omega) (by omega)).mono ?_
    rintro e w7 ⟨⟨y, rfl, hy0, hy1⟩, hw⟩
    have HF7 := Lib.hid (HF6.out.draw hw)
    clear hw HF6
    obtain ⟨m, hm⟩ : ∃ m : Nat, 40 + y = (m : Int) := ⟨(40 + y).toNat, by omega⟩
    have hwy : IntKind.i64.wrap (40 + y) = (m : Int) := by rw [hm]; exact IntWalk.i64_in _ (by omega)
    have hm41 : m ≤ 41 := by omega
    obtain ⟨q, hq⟩ : ∃ q : ByteArray, q = ⟨(List.replicate m (0 : UInt8)).toArray⟩ := ⟨_, rfl⟩
    have HQ := Lib.hid hq
    have HQS := Lib.hid (show q.size ≤ 41 by rw [hq]; show (List.replicate m (0 : UInt8)).toArray.size ≤ 41; simp; omega)
    clear hq
    go_wp2_with (at_make; refine wpList_make_full _ rfl _ _ 22 rfl w7.heap.size 5 i0 (.int .u8 0) 1 Tryd.underlying22 hi hz0 hz1 .i64 .i64 _ _ m rfl rfl rfl rfl (by rw [hz2]; omega) (by unfold maxLen; omega) (Nat.le_refl _) ?_; intro w8 hown1 hg1; rw [zeros_cells] at hown1; have hcv := convert_row (P := Tryd.prog) (l := List.replicate m (0 : UInt8)) 22 9 5 Tryd.underlying22 Tryd.underlying5 Tryd.underlying9 hown1; rw [← HQ.out] at hcv; have HF8 := Lib.hid (HF7.out.low (show Below w7.heap.size w7 w8 from (Below.refl _ _).grown hg1 (Nat.le_refl _) (fun k e => by cases e))); have c3 := HF8.out.f.cell 3 (.string b) rfl; have f3 := HF8.out.f.frozen 3; have HFx := Lib.hid (show Es B w (w8.setCell ⟨b3, 3, none⟩ (.string q)) cb a0 len0 cap0 b2 b3 #[.int .i64 i, .int .i64 d, .int .i64 c, .string q, .int .i64 a, .int .i64 t, .int .i64 r, .int .i64 n, .int .i64 s] from HF8.out.set 3 (.string q)); clear hown1 hg1; have c0 := HF8.out.f.cell 0 (.int .i64 i) rfl; have c1 := HF8.out.f.cell 1 (.int .i64 d) rfl; have c2 := HF8.out.f.cell 2 (.int .i64 c) rfl; have c4 := HF8.out.f.cell 4 (.int .i64 a) rfl; have c5 := HF8.out.f.cell 5 (.int .i64 t) rfl; have c6 := HF8.out.f.cell 6 (.int .i64 r) rfl; have c7 := HF8.out.f.cell 7 (.int .i64 n) rfl; have c8 := HF8.out.f.cell 8 (.int .i64 s) rfl; have z0 := HF8.out.z.cell 0 (.int .i64 0) rfl; have g0 := HF8.out.z.frozen 0; have z1 := HF8.out.z.cell 1 (.int .i64 0) rfl; have g1 := HF8.out.z.frozen 1; have z2 := HF8.out.z.cell 2 (.int .i64 0) rfl; have g2 := HF8.out.z.frozen 2; have z3 := HF8.out.z.cell 3 (.string ⟨#[]⟩) rfl; have g3 := HF8.out.z.frozen 3; have z4 := HF8.out.z.cell 4 (.int .i64 0) rfl; have g4 := HF8.out.z.frozen 4; have z5 := HF8.out.z.cell 5 (.int .i64 0) rfl; have g5 := HF8.out.z.frozen 5; have z6 := HF8.out.z.cell 6 (.int .i64 0) rfl; have g6 := HF8.out.z.frozen 6; have z7 := HF8.out.z.cell 7 (.int .i64 0) rfl; have g7 := HF8.out.z.frozen 7; have z8 := HF8.out.z.cell 8 (.int .i64 0) rfl; have g8 := HF8.out.z.frozen 8; have hne23 := HF8.out.ne)
    have hfin := HFx.out.fin i d c q a t r n s
    obtain ⟨X, hX⟩ : ∃ X, X = ((((((((((w8.setCell ⟨b3, 3, none⟩ (.string q)).setCell ⟨b2, 0, none⟩ (.int .i64 i)).setCell ⟨b2, 1, none⟩ (.int .i64 d)).setCell ⟨b2, 2, none⟩ (.int .i64 c)).setCell ⟨b2, 3, none⟩ (.string q)).setCell ⟨b2, 4, none⟩ (.int .i64 a)).setCell ⟨b2, 5, none⟩ (.int .i64 t)).setCell ⟨b2, 6, none⟩ (.int .i64 r)).setCell ⟨b2, 7, none⟩ (.int .i64 n)).setCell ⟨b2, 8, none⟩ (.int .i64 s)) := ⟨_, rfl⟩
    rw [← hX] at hfin ⊢
    clear hX
    obtain ⟨hfx, hwx⟩ := hfin
    obtain ⟨x0, x1, x2, x3, x4, x5, x6, x7, x8, hlx⟩ := hfx.box
    exact bodyPost_ret (v := .agg #[.int .i64 i, .int .i64 d, .int .i64 c, .string q, .int .i64 a, .int .i64 t, .int .i64 r, .int .i64 n, .int .i64 s]) (by simp [results, Tryd.results15, go_sem, x0, x1, x2, x3, x4, x5, x6, x7, x8]) rfl ⟨⟨_, _, _, _, _, _, _, _, _, by have h1 := HDE.out; have h2 := HQS.out; unfold DEv at h1 ⊢; omega, rfl⟩, hwx⟩
  · go_wp2_with fail
    have HF7 := Lib.hid (HF6.out.low (bOne w6 (.cells #[.int .i64 (-1), .int .i64 2000000000, .int .i64 2000000001] 3)))
    refine (pickInt_draw _ cb B a0 len0 cap0 HF7.out.wn.dr w6.heap.size 3 (fun z => -1 ≤ z ∧ z ≤ 2000000001) (nums_n w6) (by have := HF6.out.wn.dr.cur.lt; omega) (by simp) (by omega) (by omega)).mono ?_
    rintro e w8 ⟨⟨z, rfl, hz⟩, hw⟩
    have HF8 := Lib.hid (HF7.out.draw hw)
    have HZZ := Lib.hid hz
    clear hw HF7 HF6 hz
    have c7 := HF8.out.f.cell 7 (.int .i64 n) rfl
    have f7 := HF8.out.f.frozen 7
    have HFx := Lib.hid (show Es B w (w8.setCell ⟨b3, 7, none⟩ (.int .i64 z)) cb a0 len0 cap0 b2 b3 #[.int .i64 i, .int .i64 d, .int .i64 c, .string b, .int .i64 a, .int .i64 t, .int .i64 r, .int .i64 z, .int .i64 s] from HF8.out.set 7 (.int .i64 z))
    obtain ⟨wx, hwx⟩ : ∃ wx, wx = w8.setCell ⟨b3, 7, none⟩ (.int .i64 z) := ⟨_, rfl⟩
    go_upto_region 17 with fail
    rw [← hwx] at HFx ⊢
    clear hwx HF8 c7 f7
    have c0 := HFx.out.f.cell 0 (.int .i64 i) rfl
    have c1 := HFx.out.f.cell 1 (.int .i64 d) rfl
    have c2 := HFx.out.f.cell 2 (.int .i64 c) rfl
    have c3 := HFx.out.f.cell 3 (.string b) rfl
    have c4 := HFx.out.f.cell 4 (.int .i64 a) rfl
    have c5 := HFx.out.f.cell 5 (.int .i64 t) rfl
    have c6 := HFx.out.f.cell 6 (.int .i64 r) rfl
    have c7 := HFx.out.f.cell 7 (.int .i64 z) rfl
    have c8 := HFx.out.f.cell 8 (.int .i64 s) rfl
    have z0 := HFx.out.z.cell 0 (.int .i64 0) rfl
    have g0 := HFx.out.z.frozen 0
    have z1 := HFx.out.z.cell 1 (.int .i64 0) rfl
    have g1 := HFx.out.z.frozen 1
    have z2 := HFx.out.z.cell 2 (.int .i64 0) rfl
    have g2 := HFx.out.z.frozen 2
    have z3 := HFx.out.z.cell 3 (.string ⟨#[]⟩) rfl
    have g3 := HFx.out.z.frozen 3
    have z4 := HFx.out.z.cell 4 (.int .i64 0) rfl
    have g4 := HFx.out.z.frozen 4
    have z5 := HFx.out.z.cell 5 (.int .i64 0) rfl
    have g5 := HFx.out.z.frozen 5
    have z6 := HFx.out.z.cell 6 (.int .i64 0) rfl
    have g6 := HFx.out.z.frozen 6
    have z7 := HFx.out.z.cell 7 (.int .i64 0) rfl
    have g7 := HFx.out.z.frozen 7
    have z8 := HFx.out.z.cell 8 (.int .i64 0) rfl
    have g8 := HFx.out.z.frozen 8
    go_wp2_with fail
    have hfin := HFx.out.fin i d c b a t r z s
    obtain ⟨X, hX⟩ : ∃ X, X = (((((((((wx.setCell ⟨b2, 0, none⟩ (.int .i64 i)).setCell ⟨b2, 1, none⟩ (.int .i64 d)).setCell ⟨b2, 2, none⟩ (.int .i64 c)).setCell ⟨b2, 3, none⟩ (.string b)).setCell ⟨b2, 4, none⟩ (.int .i64 a)).setCell ⟨b2, 5, none⟩ (.int .i64 t)).setCell ⟨b2, 6, none⟩ (.int .i64 r)).setCell ⟨b2, 7, none⟩ (.int .i64 z)).setCell ⟨b2, 8, none⟩ (.int .i64 s)) := ⟨_, rfl⟩
    rw [← hX] at hfin ⊢
    clear hX
    obtain ⟨hfx, hwx⟩ := hfin
    obtain ⟨x0, x1, x2, x3, x4, x5, x6, x7, x8, hlx⟩ := hfx.box
    exact bodyPost_ret (v := .agg #[.int .i64 i, .int .i64 d, .int .i64 c, .string b, .int .i64 a, .int .i64 t, .int .i64 r, .int .i64 z, .int .i64 s]) (by simp [results, Tryd.results15, go_sem, x0, x1, x2, x3, x4, x5, x6, x7, x8]) rfl ⟨⟨_, _, _, _, _, _, _, _, _, by have h1 := HDE.out; have h2 := HZZ.out; unfold DEv at h1 ⊢; omega, rfl⟩, hwx⟩
  · have hx0 : (x == 0) = false := beq_eq_false_iff_ne.2 (by omega)
    have hx1 : (x == 1) = false := beq_eq_false_iff_ne.2 (by omega)
    have hx2 : (x == 2) = false := beq_eq_false_iff_ne.2 (by omega)
    have hx3 : (x == 3) = false := beq_eq_false_iff_ne.2 (by omega)
    have hx4 : (x == 4) = false := beq_eq_false_iff_ne.2 (by omega)
    have hx5 : (x == 5) = false := beq_eq_false_iff_ne.2 (by omega)
    have hx6 : (x == 6) = false := beq_eq_false_iff_ne.2 (by omega)
    have c0 := HF6.out.f.cell 0 (.int .i64 i) rfl
    have c1 := HF6.out.f.cell 1 (.int .i64 d) rfl
    have c2 := HF6.out.f.cell 2 (.int .i64 c) rfl
    have c3 := HF6.out.f.cell 3 (.string b) rfl
    have c4 := HF6.out.f.cell 4 (.int .i64 a) rfl
    have c5 := HF6.out.f.cell 5 (.int .i64 t) rfl
    have c6 := HF6.out.f.cell 6 (.int .i64 r) rfl
    have c7 := HF6.out.f.cell 7 (.int .i64 n) rfl
    have c8 := HF6.out.f.cell 8 (.int .i64 s) rfl
    have z0 := HF6.out.z.cell 0 (.int .i64 0) rfl
    have g0 := HF6.out.z.frozen 0
    have z1 := HF6.out.z.cell 1 (.int .i64 0) rfl
    have g1 := HF6.out.z.frozen 1
    have z2 := HF6.out.z.cell 2 (.int .i64 0) rfl
    have g2 := HF6.out.z.frozen 2
    have z3 := HF6.out.z.cell 3 (.string ⟨#[]⟩) rfl
    have g3 := HF6.out.z.frozen 3
    have z4 := HF6.out.z.cell 4 (.int .i64 0) rfl
    have g4 := HF6.out.z.frozen 4
    have z5 := HF6.out.z.cell 5 (.int .i64 0) rfl
    have g5 := HF6.out.z.frozen 5
    have z6 := HF6.out.z.cell 6 (.int .i64 0) rfl
    have g6 := HF6.out.z.frozen 6
    have z7 := HF6.out.z.cell 7 (.int .i64 0) rfl
    have g7 := HF6.out.z.frozen 7
    have z8 := HF6.out.z.cell 8 (.int .i64 0) rfl
    have g8 := HF6.out.z.frozen 8
    go_wp2_with fail
    have hfin := HF6.out.fin i d c b a t r n s
    obtain ⟨X, hX⟩ : ∃ X, X = (((((((((w6.setCell ⟨b2, 0, none⟩ (.int .i64 i)).setCell ⟨b2, 1, none⟩ (.int .i64 d)).setCell ⟨b2, 2, none⟩ (.int .i64 c)).setCell ⟨b2, 3, none⟩ (.string b)).setCell ⟨b2, 4, none⟩ (.int .i64 a)).setCell ⟨b2, 5, none⟩ (.int .i64 t)).setCell ⟨b2, 6, none⟩ (.int .i64 r)).setCell ⟨b2, 7, none⟩ (.int .i64 n)).setCell ⟨b2, 8, none⟩ (.int .i64 s)) := ⟨_, rfl⟩
    rw [← hX] at hfin ⊢
    clear hX
    obtain ⟨hfx, hwx⟩ := hfin
    obtain ⟨x0, x1, x2, x3, x4, x5, x6, x7, x8, hlx⟩ := hfx.box
    exact bodyPost_ret (v := .agg #[.int .i64 i, .int .i64 d, .int .i64 c, .string b, .int .i64 a, .int .i64 t, .int .i64 r, .int .i64 n, .int .i64 s]) (by simp [results, Tryd.results15, go_sem, x0, x1, x2, x3, x4, x5, x6, x7, x8]) rfl ⟨⟨_, _, _, _, _, _, _, _, _, HDE.out, rfl⟩, hwx⟩
end Go.Proofs.YtjcopkjapnieoaaDoor.Evt
