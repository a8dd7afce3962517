/-
  The draws of frames, first part: a cursor whose state is left open, and two boxes of frames beside it.
-/
import Derived.Test.YtgbdmpfojiihnaaDoorTxtW
import Derived.Test.YtgbdmpfojiihnaaDoorDrawN
import Derived.Test.YtgbdmpfojiihnaaDoorGotA
namespace Go.Proofs.YtgbdmpfojiihnaaDoor.Fdw
open Go.RowKit Go.Proofs.YtgbdmpfojiihnaaDoor.Kit Go.Proofs.YtgbdmpfojiihnaaDoor.Frm
set_option linter.unusedVariables false

def DrwE (B : Nat) (w : World) (cb : Nat) (a : Option Addr) (len cap : Nat) (c : Nat → Int) : Prop := ∃ s, Drw B w cb 59 a len cap c s
def WntE (B : Nat) (w w' : World) (cb : Nat) (a : Option Addr) (len cap : Nat) (c : Nat → Int) : Prop := ∃ s, Wnt B w w' cb 59 a len cap c s
section
variable {B : Nat} {w w1 w2 : World} {cb : Nat} {a : Option Addr} {len cap : Nat} {c : Nat → Int}
theorem WntE.dr (h : WntE B w w1 cb a len cap c) : DrwE B w1 cb a len cap c := let ⟨s, hs⟩ := h; ⟨s, hs.dr⟩
theorem WntE.grown (h : WntE B w w1 cb a len cap c) : w.grownBy w1 (some cb) := let ⟨_, hs⟩ := h; hs.grown
theorem WntE.trans (h : WntE B w w1 cb a len cap c) (k : WntE B w1 w2 cb a len cap c) : WntE B w w2 cb a len cap c := let ⟨_, hs⟩ := h; let ⟨s, ks⟩ := k; ⟨s, hs.trans ks⟩
theorem DrwE.refl (h : DrwE B w cb a len cap c) : WntE B w w cb a len cap c := let ⟨s, hs⟩ := h; ⟨s, hs.refl⟩
theorem WntE.alloc (h : WntE B w w1 cb a len cap c) (o : Obj) : WntE B w (w1.alloc o) cb a len cap c := let ⟨s, hs⟩ := h; ⟨s, hs.alloc o⟩
theorem DrwE.lt (h : DrwE B w cb a len cap c) : cb < w.heap.size := let ⟨_, hs⟩ := h; hs.lt
theorem DrwE.le (h : DrwE B w cb a len cap c) : B ≤ cb := let ⟨_, hs⟩ := h; hs.le
theorem WntE.below (h : WntE B w w1 cb a len cap c) (hs : B ≤ w.heap.size) : Below B w w1 := let ⟨_, hw⟩ := h; hw.below hs
/-- a store into a block that is newer than w -/
theorem WntE.set (h : WntE B w w1 cb a len cap c) {b : Nat} (hB : B ≤ b) (hb : w.heap.size ≤ b) (hne : b ≠ cb) (j : Nat) (u : Value) : WntE B w (w1.setCell ⟨b, j, none⟩ u) cb a len cap c := by
  obtain ⟨s, hs⟩ := h
  have hoth : ∀ k, k ≠ b → (w1.setCell ⟨b, j, none⟩ u).heap[k]? = w1.heap[k]? := fun k hk => heap_setCell_other w1 ⟨b, j, none⟩ k u hk
  have hd := hs.dr
  exact ⟨s, ⟨hd.pl, (hoth cb (fun e => hne e.symm)).trans hd.cur, hd.code.below ((Below.refl B w1).setCell hB u), hd.le⟩,
    ⟨hs.grown.os, hs.grown.tape, hs.grown.output, by simpa using hs.grown.size, fun k hk hn => (hoth k (by omega)).trans (hs.grown.block k hk hn)⟩⟩
/-- an allocation of rows of the call's own, the cursor untouched -/
theorem WntE.step (h : WntE B w w1 cb a len cap c) (hB : B ≤ w.heap.size) (hb : Below w1.heap.size w1 w2) : WntE B w w2 cb a len cap c := by
  obtain ⟨s, hs⟩ := h
  have hd := hs.dr
  have hBw : B ≤ w1.heap.size := Nat.le_trans hB hs.grown.size
  exact ⟨s, ⟨hd.pl, (hb.block cb hd.lt).trans hd.cur, hd.code.below (hb.mono hBw), hd.le⟩, grown_trans hs.grown ⟨hb.os, hb.tape, hb.output, hb.size, fun k hk _ => hb.block k hk⟩⟩
end

/-- a box of a frame -/
def Hb (w : World) (b : Nat) (cs : Array Value) : Prop := w.heap[b]? = some (.cells cs 26 (0, 0))
theorem Hb.cell {w : World} {b : Nat} {cs : Array Value} (h : Hb w b cs) (j : Nat) (v : Value) (hv : cs[j]? = some v) : w.cell? ⟨b, j, none⟩ = some v := (cell_of_row w b j cs _ (0, 0) h).trans hv
theorem Hb.frozen {w : World} {b : Nat} {cs : Array Value} (h : Hb w b cs) (j : Nat) : w.frozen? ⟨b, j, none⟩ = false := by
  unfold Hb at h
  simp [World.frozen?, h]
theorem Hb.set {w : World} {b : Nat} {cs : Array Value} (h : Hb w b cs) (j : Nat) (u : Value) : Hb (w.setCell ⟨b, j, none⟩ u) b (cs.setIfInBounds j u) := heap_setCell_same w b j cs _ u h
theorem Hb.other {w : World} {b : Nat} {cs : Array Value} (h : Hb w b cs) {b' : Nat} (hne : b ≠ b') (j : Nat) (u : Value) : Hb (w.setCell ⟨b', j, none⟩ u) b cs := (heap_setCell_other w ⟨b', j, none⟩ b u hne).trans h
theorem Hb.grown {w w' : World} {b : Nat} {cs : Array Value} (h : Hb w b cs) {cb : Nat} (hg : w.grownBy w' (some cb)) (hne : b ≠ cb) : Hb w' b cs := (hg.block b (at_lt h) (fun e => hne (by injection e))).trans h
theorem Hb.low {w w' : World} {b : Nat} {cs : Array Value} (h : Hb w b cs) (hb : Below w.heap.size w w') : Hb w' b cs := (hb.block b (at_lt h)).trans h
theorem Hb.new (w : World) (cs : Array Value) : Hb (w.alloc (.cells cs 26)) w.heap.size cs := heap_alloc_new w _

abbrev zf : Array Value := #[.int .i64 0, .int .i64 0, .int .i64 0, .int .i64 0, .int .i64 0, .string ⟨#[]⟩]
abbrev ff (k d e s i : Int) (b : ByteArray) : Array Value := #[.int .i64 k, .int .i64 d, .int .i64 e, .int .i64 s, .int .i64 i, .string b]
/-- two boxes beside the cursor: the result's, and the frame's that is made -/
structure Fs (B : Nat) (w0 w : World) (cb : Nat) (a : Option Addr) (len cap : Nat) (c : Nat → Int) (b2 b3 : Nat) (cs : Array Value) : Prop where
  wn : WntE B w0 w cb a len cap c
  hB : B ≤ w0.heap.size
  z : Hb w b2 zf
  f : Hb w b3 cs
  g2 : w0.heap.size ≤ b2
  g3 : w0.heap.size ≤ b3
  n2 : b2 ≠ cb
  n3 : b3 ≠ cb
  ne : b2 ≠ b3
section
variable {B : Nat} {w0 w w' : World} {cb : Nat} {a : Option Addr} {len cap : Nat} {c : Nat → Int} {b2 b3 : Nat} {cs : Array Value}
theorem Fs.draw (h : Fs B w0 w cb a len cap c b2 b3 cs) (hw : WntE B w w' cb a len cap c) : Fs B w0 w' cb a len cap c b2 b3 cs :=
  ⟨h.wn.trans hw, h.hB, h.z.grown hw.grown h.n2, h.f.grown hw.grown h.n3, h.g2, h.g3, h.n2, h.n3, h.ne⟩
theorem Fs.low (h : Fs B w0 w cb a len cap c b2 b3 cs) (hb : Below w.heap.size w w') : Fs B w0 w' cb a len cap c b2 b3 cs :=
  ⟨h.wn.step h.hB hb, h.hB, h.z.low hb, h.f.low hb, h.g2, h.g3, h.n2, h.n3, h.ne⟩
theorem Fs.set (h : Fs B w0 w cb a len cap c b2 b3 cs) (j : Nat) (u : Value) : Fs B w0 (w.setCell ⟨b3, j, none⟩ u) cb a len cap c b2 b3 (cs.setIfInBounds j u) :=
  ⟨h.wn.set (Nat.le_trans h.hB h.g3) h.g3 h.n3 j u, h.hB, h.z.other h.ne j u, h.f.set j u, h.g2, h.g3, h.n2, h.n3, h.ne⟩
/-- the end: the frame stored whole into the result's box -/
theorem Fs.fin {k d e s i : Int} {b : ByteArray} (h : Fs B w0 w cb a len cap c b2 b3 (ff k d e s i b)) :
    B6 ((((((w.setCell ⟨b2, 0, none⟩ (.int .i64 k)).setCell ⟨b2, 1, none⟩ (.int .i64 d)).setCell ⟨b2, 2, none⟩ (.int .i64 e)).setCell ⟨b2, 3, none⟩ (.int .i64 s)).setCell ⟨b2, 4, none⟩ (.int .i64 i)).setCell ⟨b2, 5, none⟩ (.string b)) b2 k d e s i b ∧
    WntE B w0 ((((((w.setCell ⟨b2, 0, none⟩ (.int .i64 k)).setCell ⟨b2, 1, none⟩ (.int .i64 d)).setCell ⟨b2, 2, none⟩ (.int .i64 e)).setCell ⟨b2, 3, none⟩ (.int .i64 s)).setCell ⟨b2, 4, none⟩ (.int .i64 i)).setCell ⟨b2, 5, none⟩ (.string b)) cb a len cap c := by
  have hB2 := Nat.le_trans h.hB h.g2
  exact ⟨six_set (B6.at h.z) k d e s i b, (((((h.wn.set hB2 h.g2 h.n2 0 _).set hB2 h.g2 h.n2 1 _).set hB2 h.g2 h.n2 2 _).set hB2 h.g2 h.n2 3 _).set hB2 h.g2 h.n2 4 _).set hB2 h.g2 h.n2 5 _⟩
end

theorem below_e (w : World) (cb B : Nat) (a : Option Addr) (len cap : Nat) (c : Nat → Int) (hd : DrwE B w cb a len cap c) (n : Int) (h1 : 1 ≤ n) (h2 : n ≤ 256) :
    Calls Tryd.prog 21 #[.pointer (some ⟨cb, 0, none⟩), .int .i64 n] w fun e w' => (∃ k : Int, e = .returned (.int .i64 k) ∧ 0 ≤ k ∧ k < n) ∧ WntE B w w' cb a len cap c := by
  obtain ⟨s, hs⟩ := hd
  exact (Drw.below_x w cb B a len cap c s hs n h1 h2).mono fun e w' ⟨he, hw⟩ => ⟨⟨_, he, (belowF_bd c len n s h1).1, (belowF_bd c len n s h1).2⟩, ⟨_, hw⟩⟩
theorem text_e (w : World) (cb B : Nat) (a : Option Addr) (len cap : Nat) (c : Nat → Int) (hd : DrwE B w cb a len cap c) (hlen : len ≤ 1048576) (n : Nat) (hn : n ≤ 200) :
    Calls Tryd.prog 20 #[.pointer (some ⟨cb, 0, none⟩), .int .i64 n] w fun e w' => (∃ b : ByteArray, b.size = n ∧ e = .returned (.string b)) ∧ WntE B w w' cb a len cap c := by
  obtain ⟨s, hs⟩ := hd
  exact (Txt.text_x w cb B a len cap c s hs hlen n hn).mono fun e w' ⟨l, s', hl, he, hw⟩ => ⟨⟨⟨l.toArray⟩, by show l.toArray.size = n; simpa using hl, he⟩, ⟨_, hw⟩⟩
set_option maxHeartbeats 400000 in
theorem pickInt_e (w : World) (cb B : Nat) (a : Option Addr) (len cap : Nat) (c : Nat → Int) (hd : DrwE B w cb a len cap c) (g n : Nat) (Pz : Int → Prop) (hn : Draw.Nums w g n Pz) (hg : g ≠ cb) (hg2 : g < w.heap.size) (h1 : 1 ≤ n) (h2 : n ≤ 100) :
    Calls Tryd.prog 42 #[.pointer (some ⟨cb, 0, none⟩), .slice (some ⟨g, 0, none⟩) n n] w fun e w' => (∃ z : Int, e = .returned (.int .i64 z) ∧ Pz z) ∧ WntE B w w' cb a len cap c := by
  have HN := Lib.hid hn
  clear hn
  go_enter Tryd.func42, Tryd.ntmps42
  go_wp2_with fail
  refine (below_e _ cb B a len cap c hd _ (by omega) (by omega)).mono ?_
  rintro e w1 ⟨⟨x, rfl, hx0, hx1⟩, hw⟩
  obtain ⟨k, rfl⟩ := Int.eq_ofNat_of_zero_le hx0
  obtain ⟨z, hz, hcz⟩ := HN.out k (by omega)
  have hc1 : w1.cell? ⟨g, k, none⟩ = some (.int .i64 z) := hw.grown.cell hcz (by simpa using hg)
  clear hcz
  go_wp2_with fail
  go_ret
  exact ⟨⟨z, rfl, hz⟩, hw⟩
end Go.Proofs.YtgbdmpfojiihnaaDoor.Fdw
