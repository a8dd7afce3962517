/-
  The walks of the draws of a message and what stands beside it.
-/
import Derived.Test.YtjcopkjapnieoaaDoorEvDM
namespace Go.Proofs.YtjcopkjapnieoaaDoor.Evt
open Go.RowKit Go.Proofs.YtjcopkjapnieoaaDoor.Kit Go.Proofs.YtjcopkjapnieoaaDoor.Draw
set_option linter.unusedVariables false
set_option linter.unusedSimpArgs false

/-- a draw under way: its cursor, the answer's box, the message's box -/
structure Ds (B : Nat) (w0 w : World) (cb : Nat) (a0 : Option Addr) (len0 cap0 b2 b3 : Nat) (cs : Array Value) : Prop where
  dr : Dr B w cb 45 a0 len0 cap0
  low : Below w0.heap.size w0 w
  z : Hv w b2 #[.int .i64 0, .int .i64 0, .int .i64 0, .string ⟨#[]⟩, .int .i64 0, .int .i64 0, .int .i64 0, .int .i64 0, .int .i64 0]
  f : Hv w b3 cs
  g2 : w0.heap.size ≤ b2
  gc : w0.heap.size ≤ cb
  n2 : b2 ≠ cb
  n3 : b3 ≠ cb
section
variable {B : Nat} {w0 w w' : World} {cb : Nat} {a0 : Option Addr} {len0 cap0 : Nat} {b2 b3 : Nat} {cs : Array Value}
theorem Ds.draw (h : Ds B w0 w cb a0 len0 cap0 b2 b3 cs) (hw : Went B w w' cb 45 a0 len0 cap0) : Ds B w0 w' cb a0 len0 cap0 b2 b3 cs :=
  ⟨hw.dr, h.low.grown hw.grown h.low.size (fun k e => by injection e with e; have := h.gc; omega), h.z.grown hw.grown h.n2, h.f.grown hw.grown h.n3, h.g2, h.gc, h.n2, h.n3⟩
theorem Ds.step (h : Ds B w0 w cb a0 len0 cap0 b2 b3 cs) (hb : Below w.heap.size w w') : Ds B w0 w' cb a0 len0 cap0 b2 b3 cs := h.draw (went_step h.dr.refl hb)
/-- the end: the message stored whole into the answer's box -/
theorem Ds.fin (h : Ds B w0 w cb a0 len0 cap0 b2 b3 cs) (i d c : Int) (b : ByteArray) (a t r n s : Int) : Hv (((((((((w.setCell ⟨b2, 0, none⟩ (.int .i64 i)).setCell ⟨b2, 1, none⟩ (.int .i64 d)).setCell ⟨b2, 2, none⟩ (.int .i64 c)).setCell ⟨b2, 3, none⟩ (.string b)).setCell ⟨b2, 4, none⟩ (.int .i64 a)).setCell ⟨b2, 5, none⟩ (.int .i64 t)).setCell ⟨b2, 6, none⟩ (.int .i64 r)).setCell ⟨b2, 7, none⟩ (.int .i64 n)).setCell ⟨b2, 8, none⟩ (.int .i64 s)) b2 #[.int .i64 i, .int .i64 d, .int .i64 c, .string b, .int .i64 a, .int .i64 t, .int .i64 r, .int .i64 n, .int .i64 s] ∧ Below w0.heap.size w0 (((((((((w.setCell ⟨b2, 0, none⟩ (.int .i64 i)).setCell ⟨b2, 1, none⟩ (.int .i64 d)).setCell ⟨b2, 2, none⟩ (.int .i64 c)).setCell ⟨b2, 3, none⟩ (.string b)).setCell ⟨b2, 4, none⟩ (.int .i64 a)).setCell ⟨b2, 5, none⟩ (.int .i64 t)).setCell ⟨b2, 6, none⟩ (.int .i64 r)).setCell ⟨b2, 7, none⟩ (.int .i64 n)).setCell ⟨b2, 8, none⟩ (.int .i64 s)) := ⟨h.z.fin i d c b a t r n s, low_fin h.low h.g2 i d c b a t r n s⟩
end
theorem below_drewE {w w' : World} (h : Below w.heap.size w w') : Below w.heap.size w w'.drew := h.drew
/-- what a draw's second number may be -/
def PN (z : Int) : Prop := -2 ≤ z ∧ z ≤ 2000000001
theorem nums_4 (W : World) (x y u v : Int) (hx : PN x) (hy : PN y) (hu : PN u) (hv : PN v) : Nums (W.alloc (.cells #[.int .i64 x, .int .i64 y, .int .i64 u, .int .i64 v] 3)) W.heap.size 4 PN := nums_new W [.int .i64 x, .int .i64 y, .int .i64 u, .int .i64 v] 3 _ (by
  intro q hq
  simp only [List.mem_cons, List.mem_nil_iff, or_false] at hq
  rcases hq with rfl | rfl | rfl | rfl
  · exact ⟨_, rfl, hx⟩
  · exact ⟨_, rfl, hy⟩
  · exact ⟨_, rfl, hu⟩
  · exact ⟨_, rfl, hv⟩)

set_option maxRecDepth 100000 in
set_option maxHeartbeats 2000000 in
theorem drawText_draw (w : World) (a0 : Option Addr) (len0 cap0 : Nat) (hcode : CodeAt w.heap.size w a0 len0 cap0) :
    Calls Tryd.prog 6 #[.slice a0 len0 cap0] w fun e w' => (∃ (i d c : Int) (b : ByteArray) (a t r n s : Int), DEv b.size a t r n s ∧ e = .returned (.agg #[.int .i64 i, .int .i64 d, .int .i64 c, .string b, .int .i64 a, .int .i64 t, .int .i64 r, .int .i64 n, .int .i64 s])) ∧ Below w.heap.size w w' := by
  have HC := Lib.hid (hcode.below (bOne w (.cells #[.int .i64 0, .int .i64 0, .int .i64 0, .string ⟨#[]⟩, .int .i64 0, .int .i64 0, .int .i64 0, .int .i64 0, .int .i64 0] 25)))
  have HZ0 := Lib.hid (Hv.new w #[.int .i64 0, .int .i64 0, .int .i64 0, .string ⟨#[]⟩, .int .i64 0, .int .i64 0, .int .i64 0, .int .i64 0, .int .i64 0])
  have HL0 := Lib.hid (bOne w (.cells #[.int .i64 0, .int .i64 0, .int .i64 0, .string ⟨#[]⟩, .int .i64 0, .int .i64 0, .int .i64 0, .int .i64 0, .int .i64 0] 25))
  have HNE := Lib.hid (show w.heap.size ≠ (w.alloc (.cells #[.int .i64 0, .int .i64 0, .int .i64 0, .string ⟨#[]⟩, .int .i64 0, .int .i64 0, .int .i64 0, .int .i64 0, .int .i64 0] 25)).heap.size by simp)
  clear hcode
  go_enter Tryd.func6, Tryd.ntmps6
  go_wp2_with fail
  refine (new_draw _ w.heap.size a0 len0 cap0 HC.out (by simp)).mono ?_
  rintro e w1 ⟨rfl, hd, hb1, hs1⟩
  have HL1 := Lib.hid (bAfter HL0.out hb1 HL0.out.size)
  have HZ1 := Lib.hid (HZ0.out.low hb1)
  have HD := Lib.hid hd
  clear hd hb1 hs1 HZ0 HC
  obtain ⟨cb, hcb⟩ : ∃ cb, cb = (w.alloc (.cells #[.int .i64 0, .int .i64 0, .int .i64 0, .string ⟨#[]⟩, .int .i64 0, .int .i64 0, .int .i64 0, .int .i64 0, .int .i64 0] 25)).heap.size := ⟨_, rfl⟩
  have HGC := Lib.hid (show w.heap.size ≤ cb by rw [hcb]; exact HL0.out.size)
  rw [← hcb] at HD HNE ⊢
  clear hcb HL0
  go_wp2_with fail
  refine (evOdd_draw _ cb w.heap.size a0 len0 cap0 HD.out HL1.out.size).mono ?_
  rintro e w2 ⟨⟨i, d, c, b, a, t, r, n, s, hde, rfl⟩, hw⟩
  have HL2 := Lib.hid (HL1.out.grown hw.grown HL1.out.size (fun k e => by injection e with e; have := HGC.out; omega))
  have HZ2 := Lib.hid (HZ1.out.grown hw.grown HNE.out)
  have HDE := Lib.hid hde
  obtain ⟨b2, hb2⟩ : ∃ b, b = w.heap.size := ⟨_, rfl⟩
  have HB2 := Lib.hid (show w.heap.size ≤ b2 by omega)
  rw [← hb2] at HZ2 ⊢
  clear hb2 hw HD HL1 HZ1 hde
  have z0 := HZ2.out.cell 0 (.int .i64 0) rfl
  have g0 := HZ2.out.frozen 0
  have z1 := HZ2.out.cell 1 (.int .i64 0) rfl
  have g1 := HZ2.out.frozen 1
  have z2 := HZ2.out.cell 2 (.int .i64 0) rfl
  have g2 := HZ2.out.frozen 2
  have z3 := HZ2.out.cell 3 (.string ⟨#[]⟩) rfl
  have g3 := HZ2.out.frozen 3
  have z4 := HZ2.out.cell 4 (.int .i64 0) rfl
  have g4 := HZ2.out.frozen 4
  have z5 := HZ2.out.cell 5 (.int .i64 0) rfl
  have g5 := HZ2.out.frozen 5
  have z6 := HZ2.out.cell 6 (.int .i64 0) rfl
  have g6 := HZ2.out.frozen 6
  have z7 := HZ2.out.cell 7 (.int .i64 0) rfl
  have g7 := HZ2.out.frozen 7
  have z8 := HZ2.out.cell 8 (.int .i64 0) rfl
  have g8 := HZ2.out.frozen 8
  go_wp2_with fail
  have HX := HZ2.out.fin i d c b a t r n s
  have HXL := low_fin HL2.out HB2.out i d c b a t r n s
  obtain ⟨X, hX⟩ : ∃ X, X = (((((((((w2.setCell ⟨b2, 0, none⟩ (.int .i64 i)).setCell ⟨b2, 1, none⟩ (.int .i64 d)).setCell ⟨b2, 2, none⟩ (.int .i64 c)).setCell ⟨b2, 3, none⟩ (.string b)).setCell ⟨b2, 4, none⟩ (.int .i64 a)).setCell ⟨b2, 5, none⟩ (.int .i64 t)).setCell ⟨b2, 6, none⟩ (.int .i64 r)).setCell ⟨b2, 7, none⟩ (.int .i64 n)).setCell ⟨b2, 8, none⟩ (.int .i64 s)) := ⟨_, rfl⟩
  rw [← hX] at HX HXL ⊢
  clear hX
  obtain ⟨x0, x1, x2, x3, x4, x5, x6, x7, x8, hlx⟩ := HX.box
  exact bodyPost_ret (v := .agg #[.int .i64 i, .int .i64 d, .int .i64 c, .string b, .int .i64 a, .int .i64 t, .int .i64 r, .int .i64 n, .int .i64 s]) (by simp [results, Tryd.results6, go_sem, x0, x1, x2, x3, x4, x5, x6, x7, x8]) rfl ⟨⟨_, _, _, _, _, _, _, _, _, HDE.out, rfl⟩, HXL⟩

end Go.Proofs.YtjcopkjapnieoaaDoor.Evt
