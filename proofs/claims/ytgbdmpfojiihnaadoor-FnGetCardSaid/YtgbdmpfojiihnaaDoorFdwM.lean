/-
  The walk of spec's l04Make.
-/
import Derived.Test.YtgbdmpfojiihnaaDoorFdwA
namespace Go.Proofs.YtgbdmpfojiihnaaDoor.Fdw
open Go.RowKit Go.Proofs.YtgbdmpfojiihnaaDoor.Kit Go.Proofs.YtgbdmpfojiihnaaDoor.Frm
set_option linter.unusedVariables false

/-- a frame, the cursor behind its draw -/
def FrEnd (B : Nat) (w w' : World) (cb : Nat) (a : Option Addr) (len cap : Nat) (c : Nat → Int) (en : Ending) : Prop :=
  (∃ (k d e s i : Int) (b : ByteArray), b.size ≤ 60 ∧ en = .returned (.agg #[.int .i64 k, .int .i64 d, .int .i64 e, .int .i64 s, .int .i64 i, .string b])) ∧ WntE B w w' cb a len cap c

/-- a right frame, the cursor behind its draw -/
def MkEnd (B : Nat) (w w' : World) (cb : Nat) (a : Option Addr) (len cap : Nat) (c : Nat → Int) (en : Ending) : Prop :=
  (∃ (k d e s i : Int) (b : ByteArray), FOk k d e s i b.size ∧ en = .returned (.agg #[.int .i64 k, .int .i64 d, .int .i64 e, .int .i64 s, .int .i64 i, .string b])) ∧ WntE B w w' cb a len cap c

set_option maxRecDepth 100000 in
set_option maxHeartbeats 2000000 in
theorem make_ok (w : World) (cb B : Nat) (a : Option Addr) (len cap : Nat) (c : Nat → Int) (hd : DrwE B w cb a len cap c) (hlen : len ≤ 1048576) (hB : B ≤ w.heap.size) :
    Calls Tryd.prog 40 #[.pointer (some ⟨cb, 0, none⟩)] w fun en w' => MkEnd B w w' cb a len cap c en := by
  have hcb := hd.lt
  have HLEN := Lib.hid hlen
  have HBL := Lib.hid hB
  have HW0 := Lib.hid (hd.refl.alloc (.cells #[.int .i64 0, .int .i64 0, .int .i64 0, .int .i64 0, .int .i64 0, .string ⟨#[]⟩] 26))
  have HZ0 := Lib.hid (Hb.new w zf)
  obtain ⟨b2, hb2⟩ : ∃ b, b = w.heap.size := ⟨_, rfl⟩
  have HN2 := Lib.hid (show b2 ≠ cb by omega)
  have HB2 := Lib.hid hb2
  clear hd hlen hB
  go_enter Tryd.func40, Tryd.ntmps40
  go_wp2_with fail
  rw [← HB2.out] at HZ0 ⊢
  clear hb2
  refine (below_e _ cb B a len cap c HW0.out.dr 4 (by omega) (by omega)).mono ?_
  rintro en w1 ⟨⟨k, rfl, hk0, hk1⟩, hw⟩
  have HW1 := Lib.hid (HW0.out.trans hw)
  have HZ1 := Lib.hid (HZ0.out.grown hw.grown HN2.out)
  clear hw HW0 HZ0
  obtain ⟨K, hK⟩ : ∃ K, K = 1 + k := ⟨_, rfl⟩
  have hwk : IntKind.i64.wrap (1 + k) = K := by rw [hK]; exact IntWalk.i64_in _ (by omega)
  have hK0 : 1 ≤ K := by omega
  have hK1 : K ≤ 4 := by omega
  clear hK
  go_wp2_with fail
  refine (below_e _ cb B a len cap c HW1.out.dr 3 (by omega) (by omega)).mono ?_
  rintro en w2 ⟨⟨d, rfl, hd0, hd1⟩, hw⟩
  have HW2 := Lib.hid (HW1.out.trans hw)
  have HZ2 := Lib.hid (HZ1.out.grown hw.grown HN2.out)
  clear hw HW1 HZ1
  obtain ⟨D, hD⟩ : ∃ D, D = 1 + d := ⟨_, rfl⟩
  have hwd : IntKind.i64.wrap (1 + d) = D := by rw [hD]; exact IntWalk.i64_in _ (by omega)
  have hD0 : 1 ≤ D := by omega
  have hD1 : D ≤ 3 := by omega
  clear hD
  go_wp2_with fail
  refine (below_e _ cb B a len cap c HW2.out.dr 4 (by omega) (by omega)).mono ?_
  rintro en w3 ⟨⟨e, rfl, he0, he1⟩, hw⟩
  have HW3 := Lib.hid (HW2.out.trans hw)
  have HZ3 := Lib.hid (HZ2.out.grown hw.grown HN2.out)
  clear hw HW2 HZ2
  go_wp2_with fail
  refine (below_e _ cb B a len cap c HW3.out.dr 5 (by omega) (by omega)).mono ?_
  rintro en w4 ⟨⟨s, rfl, hs0, hs1⟩, hw⟩
  have HW4 := Lib.hid (HW3.out.trans hw)
  have HZ4 := Lib.hid (HZ3.out.grown hw.grown HN2.out)
  clear hw HW3 HZ3
  obtain ⟨S, hS⟩ : ∃ S, S = 1 + s := ⟨_, rfl⟩
  have hws : IntKind.i64.wrap (1 + s) = S := by rw [hS]; exact IntWalk.i64_in _ (by omega)
  have hS0 : 1 ≤ S := by omega
  have hS1 : S ≤ 5 := by omega
  clear hS
  have HF5 := Lib.hid (show Fs B w (w4.alloc (.cells (ff K D e S 0 ⟨#[]⟩) 26)) cb a len cap c b2 w4.heap.size (ff K D e S 0 ⟨#[]⟩) from by
    have h1 := HW4.out.grown.size
    have h2 := at_lt HZ4.out
    have h3 := HB2.out
    exact ⟨HW4.out.alloc _, HBL.out, HZ4.out.low (bOne _ _), Hb.new _ _, by omega, by omega, HN2.out, by omega, by omega⟩)
  obtain ⟨b3, hb3⟩ : ∃ b, b = w4.heap.size := ⟨_, rfl⟩
  obtain ⟨w5, hw5⟩ : ∃ w5, w5 = w4.alloc (.cells (ff K D e S 0 ⟨#[]⟩) 26) := ⟨_, rfl⟩
  go_upto_region 2 with fail
  rw [← hb3] at HF5 ⊢
  rw [← hw5] at HF5 ⊢
  clear hw5 hb3 HW4 HZ4
  have c0 := HF5.out.f.cell 0 (.int .i64 K) rfl
  have c1 := HF5.out.f.cell 1 (.int .i64 D) rfl
  have c2 := HF5.out.f.cell 2 (.int .i64 e) rfl
  have c3 := HF5.out.f.cell 3 (.int .i64 S) rfl
  have c4 := HF5.out.f.cell 4 (.int .i64 0) rfl
  have c5 := HF5.out.f.cell 5 (.string ⟨#[]⟩) rfl
  rcases (show K = 1 ∨ K = 2 ∨ K = 3 ∨ K = 4 by omega) with rfl | rfl | rfl | rfl
  · go_wp2_with fail
    refine (below_e _ cb B a len cap c HF5.out.wn.dr 9 (by omega) (by omega)).mono ?_
    rintro en w6 ⟨⟨i, rfl, hi0, hi1⟩, hw⟩
    have HF6 := Lib.hid (HF5.out.draw hw)
    clear hw HF5 c0 c1 c2 c3 c4 c5
    have c4 := HF6.out.f.cell 4 (.int .i64 0) rfl
    have f4 := HF6.out.f.frozen 4
    obtain ⟨I, hI⟩ : ∃ I, I = 1 + i := ⟨_, rfl⟩
    have hwi : IntKind.i64.wrap (1 + i) = I := by rw [hI]; exact IntWalk.i64_in _ (by omega)
    have hI0 : 1 ≤ I := by omega
    have hI1 : I ≤ 9 := by omega
    clear hI
    have HF7 := Lib.hid (show Fs B w (w6.setCell ⟨b3, 4, none⟩ (.int .i64 I)) cb a len cap c b2 b3 (ff 1 D e S I ⟨#[]⟩) from HF6.out.set 4 (.int .i64 I))
    obtain ⟨w7, hw7⟩ : ∃ w7, w7 = w6.setCell ⟨b3, 4, none⟩ (.int .i64 I) := ⟨_, rfl⟩
    go_upto_region 5 with fail
    rw [← hw7] at HF7 ⊢
    clear hw7 HF6 c4 f4 hwi
    go_wp2_with fail
    refine (below_e _ cb B a len cap c HF7.out.wn.dr 7 (by omega) (by omega)).mono ?_
    rintro en w8 ⟨⟨n, rfl, hn0, hn1⟩, hw⟩
    have HF8 := Lib.hid (HF7.out.draw hw)
    clear hw HF7
    obtain ⟨n, rfl⟩ := Int.eq_ofNat_of_zero_le hn0
    go_wp2_with fail
    refine (text_e _ cb B a len cap c HF8.out.wn.dr HLEN.out n (by omega)).mono ?_
    rintro en w9 ⟨⟨b, hbs, rfl⟩, hw⟩
    have HF9 := Lib.hid (HF8.out.draw hw)
    clear hw HF8
    have c5 := HF9.out.f.cell 5 (.string ⟨#[]⟩) rfl
    have f5 := HF9.out.f.frozen 5
    have HFx := Lib.hid (show Fs B w (w9.setCell ⟨b3, 5, none⟩ (.string b)) cb a len cap c b2 b3 (ff 1 D e S I b) from HF9.out.set 5 (.string b))
    obtain ⟨wx, hwx⟩ : ∃ wx, wx = w9.setCell ⟨b3, 5, none⟩ (.string b) := ⟨_, rfl⟩
    go_upto_region 8 with fail
    rw [← hwx] at HFx ⊢
    clear hwx HF9 c5 f5
    have c0 := HFx.out.f.cell 0 (.int .i64 1) rfl
    have c1 := HFx.out.f.cell 1 (.int .i64 D) rfl
    have c2 := HFx.out.f.cell 2 (.int .i64 e) rfl
    have c3 := HFx.out.f.cell 3 (.int .i64 S) rfl
    have c4 := HFx.out.f.cell 4 (.int .i64 I) rfl
    have c5 := HFx.out.f.cell 5 (.string b) rfl
    have z0 := HFx.out.z.cell 0 (.int .i64 0) rfl
    have g0 := HFx.out.z.frozen 0
    have z1 := HFx.out.z.cell 1 (.int .i64 0) rfl
    have g1 := HFx.out.z.frozen 1
    have z2 := HFx.out.z.cell 2 (.int .i64 0) rfl
    have g2 := HFx.out.z.frozen 2
    have z3 := HFx.out.z.cell 3 (.int .i64 0) rfl
    have g3 := HFx.out.z.frozen 3
    have z4 := HFx.out.z.cell 4 (.int .i64 0) rfl
    have g4 := HFx.out.z.frozen 4
    have z5 := HFx.out.z.cell 5 (.string ⟨#[]⟩) rfl
    have g5 := HFx.out.z.frozen 5
    go_wp2_with fail
    have hfin := HFx.out.fin
    obtain ⟨X, hX⟩ : ∃ X, X = ((((((wx.setCell ⟨b2, 0, none⟩ (.int .i64 1)).setCell ⟨b2, 1, none⟩ (.int .i64 D)).setCell ⟨b2, 2, none⟩ (.int .i64 e)).setCell ⟨b2, 3, none⟩ (.int .i64 S)).setCell ⟨b2, 4, none⟩ (.int .i64 I)).setCell ⟨b2, 5, none⟩ (.string b)) := ⟨_, rfl⟩
    rw [← hX] at hfin ⊢
    clear hX
    obtain ⟨⟨x0, x1, x2, x3, x4, x5, hlx⟩, hwx⟩ := hfin
    exact bodyPost_ret (v := .agg #[.int .i64 1, .int .i64 D, .int .i64 e, .int .i64 S, .int .i64 I, .string b]) (by simp [results, Tryd.results40, go_sem, x0, x1, x2, x3, x4, x5]) rfl ⟨⟨_, _, _, _, _, _, by unfold FOk; omega, rfl⟩, hwx⟩
  · have z0 := HF5.out.z.cell 0 (.int .i64 0) rfl
    have g0 := HF5.out.z.frozen 0
    have z1 := HF5.out.z.cell 1 (.int .i64 0) rfl
    have g1 := HF5.out.z.frozen 1
    have z2 := HF5.out.z.cell 2 (.int .i64 0) rfl
    have g2 := HF5.out.z.frozen 2
    have z3 := HF5.out.z.cell 3 (.int .i64 0) rfl
    have g3 := HF5.out.z.frozen 3
    have z4 := HF5.out.z.cell 4 (.int .i64 0) rfl
    have g4 := HF5.out.z.frozen 4
    have z5 := HF5.out.z.cell 5 (.string ⟨#[]⟩) rfl
    have g5 := HF5.out.z.frozen 5
    go_wp2_with fail
    have hfin := HF5.out.fin
    obtain ⟨X, hX⟩ : ∃ X, X = ((((((w5.setCell ⟨b2, 0, none⟩ (.int .i64 2)).setCell ⟨b2, 1, none⟩ (.int .i64 D)).setCell ⟨b2, 2, none⟩ (.int .i64 e)).setCell ⟨b2, 3, none⟩ (.int .i64 S)).setCell ⟨b2, 4, none⟩ (.int .i64 0)).setCell ⟨b2, 5, none⟩ (.string ⟨#[]⟩)) := ⟨_, rfl⟩
    rw [← hX] at hfin ⊢
    clear hX
    obtain ⟨⟨x0, x1, x2, x3, x4, x5, hlx⟩, hwx⟩ := hfin
    exact bodyPost_ret (v := .agg #[.int .i64 2, .int .i64 D, .int .i64 e, .int .i64 S, .int .i64 0, .string ⟨#[]⟩]) (by simp [results, Tryd.results40, go_sem, x0, x1, x2, x3, x4, x5]) rfl ⟨⟨_, _, _, _, _, _, by show FOk 2 D e S 0 0; unfold FOk; omega, rfl⟩, hwx⟩
  · have f3 := HF5.out.f.frozen 3
    have HFx := Lib.hid (show Fs B w (w5.setCell ⟨b3, 3, none⟩ (.int .i64 0)) cb a len cap c b2 b3 (ff 3 D e 0 0 ⟨#[]⟩) from HF5.out.set 3 (.int .i64 0))
    obtain ⟨wx, hwx⟩ : ∃ wx, wx = w5.setCell ⟨b3, 3, none⟩ (.int .i64 0) := ⟨_, rfl⟩
    go_upto_region 8 with fail
    rw [← hwx] at HFx ⊢
    clear hwx HF5 c0 c1 c2 c3 c4 c5 f3
    have c0 := HFx.out.f.cell 0 (.int .i64 3) rfl
    have c1 := HFx.out.f.cell 1 (.int .i64 D) rfl
    have c2 := HFx.out.f.cell 2 (.int .i64 e) rfl
    have c3 := HFx.out.f.cell 3 (.int .i64 0) rfl
    have c4 := HFx.out.f.cell 4 (.int .i64 0) rfl
    have c5 := HFx.out.f.cell 5 (.string ⟨#[]⟩) rfl
    have z0 := HFx.out.z.cell 0 (.int .i64 0) rfl
    have g0 := HFx.out.z.frozen 0
    have z1 := HFx.out.z.cell 1 (.int .i64 0) rfl
    have g1 := HFx.out.z.frozen 1
    have z2 := HFx.out.z.cell 2 (.int .i64 0) rfl
    have g2 := HFx.out.z.frozen 2
    have z3 := HFx.out.z.cell 3 (.int .i64 0) rfl
    have g3 := HFx.out.z.frozen 3
    have z4 := HFx.out.z.cell 4 (.int .i64 0) rfl
    have g4 := HFx.out.z.frozen 4
    have z5 := HFx.out.z.cell 5 (.string ⟨#[]⟩) rfl
    have g5 := HFx.out.z.frozen 5
    go_wp2_with fail
    have hfin := HFx.out.fin
    obtain ⟨X, hX⟩ : ∃ X, X = ((((((wx.setCell ⟨b2, 0, none⟩ (.int .i64 3)).setCell ⟨b2, 1, none⟩ (.int .i64 D)).setCell ⟨b2, 2, none⟩ (.int .i64 e)).setCell ⟨b2, 3, none⟩ (.int .i64 0)).setCell ⟨b2, 4, none⟩ (.int .i64 0)).setCell ⟨b2, 5, none⟩ (.string ⟨#[]⟩)) := ⟨_, rfl⟩
    rw [← hX] at hfin ⊢
    clear hX
    obtain ⟨⟨x0, x1, x2, x3, x4, x5, hlx⟩, hwx⟩ := hfin
    exact bodyPost_ret (v := .agg #[.int .i64 3, .int .i64 D, .int .i64 e, .int .i64 0, .int .i64 0, .string ⟨#[]⟩]) (by simp [results, Tryd.results40, go_sem, x0, x1, x2, x3, x4, x5]) rfl ⟨⟨_, _, _, _, _, _, by show FOk 3 D e 0 0 0; unfold FOk; omega, rfl⟩, hwx⟩
  · have z0 := HF5.out.z.cell 0 (.int .i64 0) rfl
    have g0 := HF5.out.z.frozen 0
    have z1 := HF5.out.z.cell 1 (.int .i64 0) rfl
    have g1 := HF5.out.z.frozen 1
    have z2 := HF5.out.z.cell 2 (.int .i64 0) rfl
    have g2 := HF5.out.z.frozen 2
    have z3 := HF5.out.z.cell 3 (.int .i64 0) rfl
    have g3 := HF5.out.z.frozen 3
    have z4 := HF5.out.z.cell 4 (.int .i64 0) rfl
    have g4 := HF5.out.z.frozen 4
    have z5 := HF5.out.z.cell 5 (.string ⟨#[]⟩) rfl
    have g5 := HF5.out.z.frozen 5
    go_wp2_with fail
    have hfin := HF5.out.fin
    obtain ⟨X, hX⟩ : ∃ X, X = ((((((w5.setCell ⟨b2, 0, none⟩ (.int .i64 4)).setCell ⟨b2, 1, none⟩ (.int .i64 D)).setCell ⟨b2, 2, none⟩ (.int .i64 e)).setCell ⟨b2, 3, none⟩ (.int .i64 S)).setCell ⟨b2, 4, none⟩ (.int .i64 0)).setCell ⟨b2, 5, none⟩ (.string ⟨#[]⟩)) := ⟨_, rfl⟩
    rw [← hX] at hfin ⊢
    clear hX
    obtain ⟨⟨x0, x1, x2, x3, x4, x5, hlx⟩, hwx⟩ := hfin
    exact bodyPost_ret (v := .agg #[.int .i64 4, .int .i64 D, .int .i64 e, .int .i64 S, .int .i64 0, .string ⟨#[]⟩]) (by simp [results, Tryd.results40, go_sem, x0, x1, x2, x3, x4, x5]) rfl ⟨⟨_, _, _, _, _, _, by show FOk 4 D e S 0 0; unfold FOk; omega, rfl⟩, hwx⟩
theorem make_e (w : World) (cb B : Nat) (a : Option Addr) (len cap : Nat) (c : Nat → Int) (hd : DrwE B w cb a len cap c) (hlen : len ≤ 1048576) (hB : B ≤ w.heap.size) :
    Calls Tryd.prog 40 #[.pointer (some ⟨cb, 0, none⟩)] w fun en w' => FrEnd B w w' cb a len cap c en :=
  (make_ok w cb B a len cap c hd hlen hB).mono fun _ _ ⟨⟨k, d, e, s, i, b, hok, h⟩, hw⟩ => ⟨⟨k, d, e, s, i, b, by have := hok.bounds; omega, h⟩, hw⟩
end Go.Proofs.YtgbdmpfojiihnaaDoor.Fdw
