/-
  What a draw of a message holds: its cursor, the box of its answer, the box of the message under way.
-/
import Derived.Test.YtjcopkjapnieoaaDoorDrawN
import Derived.Test.YtjcopkjapnieoaaDoorEvA
import Derived.Lib.Hide
import Derived.Deep.DeepCutAuto
import Derived.Test.YtjcopkjapnieoaaDoorRgk
namespace Go.Proofs.YtjcopkjapnieoaaDoor.Evt
open Go.RowKit Go.Proofs.YtjcopkjapnieoaaDoor.Kit Go.Proofs.YtjcopkjapnieoaaDoor.Draw
set_option linter.unusedVariables false

theorem infoU8 : (Tryd.prog.info? 5).map (fun i => (i.zero, i.size, i.bytes)) = some (some (.int .u8 0), 1, 1) := by kernel_rfl
theorem zeros_cells (n : Nat) : (madeCells (Value.int .u8 0).cells (n * 1)).toList = Lib.byteCells (List.replicate n (0 : UInt8)) := by
  rw [Nat.mul_one]
  show (madeCells #[Value.int .u8 0] n).toList = _
  rw [toList_madeCells_one]
  simp [Lib.byteCells]
theorem grown_ofB {w w' : World} (h : Below w.heap.size w w') (r : Option Nat) : w.grownBy w' r := ⟨h.os, h.tape, h.output, h.size, fun k hk _ => h.block k hk⟩
/-- what a draw may give -/
def DEv (m : Nat) (a t r n s : Int) : Prop := m ≤ 41 ∧ 0 ≤ a ∧ a ≤ 20 ∧ 0 ≤ t ∧ t ≤ 1000001 ∧ -1 ≤ r ∧ r ≤ 100001 ∧ -1 ≤ n ∧ n ≤ 2000000001 ∧ -1 ≤ s ∧ s ≤ 4

section
variable {B cb len0 cap0 : Nat} {w w1 w2 : World} {a0 : Option Addr}
theorem went_step (h : Went B w w1 cb 45 a0 len0 cap0) (hb : Below w1.heap.size w1 w2) : Went B w w2 cb 45 a0 len0 cap0 :=
  h.trans ⟨h.dr.keep (hb.mono (Nat.le_trans h.dr.le (Nat.le_of_lt h.dr.cur.lt))) (hb.block cb h.dr.cur.lt), grown_ofB hb _⟩
/-- a store into a block that is newer than w -/
theorem went_set (h : Went B w w1 cb 45 a0 len0 cap0) {k : Nat} (hB : B ≤ k) (hb : w.heap.size ≤ k) (hne : k ≠ cb) (j : Nat) (u : Value) : Went B w (w1.setCell ⟨k, j, none⟩ u) cb 45 a0 len0 cap0 := by
  have hoth : ∀ x, x ≠ k → (w1.setCell ⟨k, j, none⟩ u).heap[x]? = w1.heap[x]? := fun x hk => heap_setCell_other w1 ⟨k, j, none⟩ x u hk
  exact ⟨h.dr.keep ((Below.refl B w1).setCell hB u) (hoth cb (fun e => hne e.symm)), ⟨h.grown.os, h.grown.tape, h.grown.output, by simpa using h.grown.size, fun x hk hn => (hoth x (by omega)).trans (h.grown.block x hk hn)⟩⟩
end

/-- a box of a message -/
def Hv (w : World) (k : Nat) (cs : Array Value) : Prop := w.heap[k]? = some (.cells cs 25 (0, 0))
theorem Hv.lt {w : World} {k : Nat} {cs : Array Value} (h : Hv w k cs) : k < w.heap.size := (Array.getElem?_eq_some_iff.1 h).1
theorem Hv.cell {w : World} {k : Nat} {cs : Array Value} (h : Hv w k cs) (j : Nat) (v : Value) (hv : cs[j]? = some v) : w.cell? ⟨k, j, none⟩ = some v := (cell_of_row w k j cs _ (0, 0) h).trans hv
theorem Hv.frozen {w : World} {k : Nat} {cs : Array Value} (h : Hv w k cs) (j : Nat) : w.frozen? ⟨k, j, none⟩ = false := by
  unfold Hv at h
  simp [World.frozen?, h]
theorem Hv.set {w : World} {k : Nat} {cs : Array Value} (h : Hv w k cs) (j : Nat) (u : Value) : Hv (w.setCell ⟨k, j, none⟩ u) k (cs.setIfInBounds j u) := heap_setCell_same w k j cs _ u h
theorem Hv.other {w : World} {k : Nat} {cs : Array Value} (h : Hv w k cs) {k' : Nat} (hne : k ≠ k') (j : Nat) (u : Value) : Hv (w.setCell ⟨k', j, none⟩ u) k cs := (heap_setCell_other w ⟨k', j, none⟩ k u hne).trans h
theorem Hv.grown {w w' : World} {k : Nat} {cs : Array Value} (h : Hv w k cs) {cb : Nat} (hg : w.grownBy w' (some cb)) (hne : k ≠ cb) : Hv w' k cs := (hg.block k h.lt (fun e => hne (by injection e))).trans h
theorem Hv.low {w w' : World} {k : Nat} {cs : Array Value} (h : Hv w k cs) (hb : Below w.heap.size w w') : Hv w' k cs := (hb.block k h.lt).trans h
theorem Hv.new (w : World) (cs : Array Value) : Hv (w.alloc (.cells cs 25)) w.heap.size cs := heap_alloc_new w _
theorem Hv.box {w : World} {k : Nat} {i d c : Int} {b : ByteArray} {a t r n s : Int} (h : Hv w k #[.int .i64 i, .int .i64 d, .int .i64 c, .string b, .int .i64 a, .int .i64 t, .int .i64 r, .int .i64 n, .int .i64 s]) : B9 w k i d c b a t r n s :=
  ⟨h.cell 0 _ rfl, h.cell 1 _ rfl, h.cell 2 _ rfl, h.cell 3 _ rfl, h.cell 4 _ rfl, h.cell 5 _ rfl, h.cell 6 _ rfl, h.cell 7 _ rfl, h.cell 8 _ rfl, h.lt⟩

/-- the answer's box, written whole -/
theorem Hv.fin {w : World} {k : Nat} (h : Hv w k #[.int .i64 0, .int .i64 0, .int .i64 0, .string ⟨#[]⟩, .int .i64 0, .int .i64 0, .int .i64 0, .int .i64 0, .int .i64 0]) (i d c : Int) (b : ByteArray) (a t r n s : Int) : Hv (((((((((w.setCell ⟨k, 0, none⟩ (.int .i64 i)).setCell ⟨k, 1, none⟩ (.int .i64 d)).setCell ⟨k, 2, none⟩ (.int .i64 c)).setCell ⟨k, 3, none⟩ (.string b)).setCell ⟨k, 4, none⟩ (.int .i64 a)).setCell ⟨k, 5, none⟩ (.int .i64 t)).setCell ⟨k, 6, none⟩ (.int .i64 r)).setCell ⟨k, 7, none⟩ (.int .i64 n)).setCell ⟨k, 8, none⟩ (.int .i64 s)) k #[.int .i64 i, .int .i64 d, .int .i64 c, .string b, .int .i64 a, .int .i64 t, .int .i64 r, .int .i64 n, .int .i64 s] := by
  have h9 := ((((((((h.set 0 (.int .i64 i)).set 1 (.int .i64 d)).set 2 (.int .i64 c)).set 3 (.string b)).set 4 (.int .i64 a)).set 5 (.int .i64 t)).set 6 (.int .i64 r)).set 7 (.int .i64 n)).set 8 (.int .i64 s)
  simp only [List.setIfInBounds_toArray, List.set_cons_zero, List.set_cons_succ] at h9
  exact h9

/-- two boxes beside the cursor: the answer's, and the message's under way -/
structure Es (B : Nat) (w0 w : World) (cb : Nat) (a0 : Option Addr) (len0 cap0 b2 b3 : Nat) (cs : Array Value) : Prop where
  wn : Went B w0 w cb 45 a0 len0 cap0
  hB : B ≤ w0.heap.size
  z : Hv w b2 #[.int .i64 0, .int .i64 0, .int .i64 0, .string ⟨#[]⟩, .int .i64 0, .int .i64 0, .int .i64 0, .int .i64 0, .int .i64 0]
  f : Hv w b3 cs
  g2 : w0.heap.size ≤ b2
  g3 : w0.heap.size ≤ b3
  n2 : b2 ≠ cb
  n3 : b3 ≠ cb
  ne : b2 ≠ b3
section
variable {B : Nat} {w0 w w' : World} {cb : Nat} {a0 : Option Addr} {len0 cap0 : Nat} {b2 b3 : Nat} {cs : Array Value}
theorem Es.draw (h : Es B w0 w cb a0 len0 cap0 b2 b3 cs) (hw : Went B w w' cb 45 a0 len0 cap0) : Es B w0 w' cb a0 len0 cap0 b2 b3 cs :=
  ⟨h.wn.trans hw, h.hB, h.z.grown hw.grown h.n2, h.f.grown hw.grown h.n3, h.g2, h.g3, h.n2, h.n3, h.ne⟩
theorem Es.low (h : Es B w0 w cb a0 len0 cap0 b2 b3 cs) (hb : Below w.heap.size w w') : Es B w0 w' cb a0 len0 cap0 b2 b3 cs :=
  ⟨went_step h.wn hb, h.hB, h.z.low hb, h.f.low hb, h.g2, h.g3, h.n2, h.n3, h.ne⟩
theorem Es.set (h : Es B w0 w cb a0 len0 cap0 b2 b3 cs) (j : Nat) (u : Value) : Es B w0 (w.setCell ⟨b3, j, none⟩ u) cb a0 len0 cap0 b2 b3 (cs.setIfInBounds j u) :=
  ⟨went_set h.wn (Nat.le_trans h.hB h.g3) h.g3 h.n3 j u, h.hB, h.z.other h.ne j u, h.f.set j u, h.g2, h.g3, h.n2, h.n3, h.ne⟩
/-- the end: the message stored whole into the answer's box -/
theorem Es.fin (h : Es B w0 w cb a0 len0 cap0 b2 b3 cs) (i d c : Int) (b : ByteArray) (a t r n s : Int) :
    Hv (((((((((w.setCell ⟨b2, 0, none⟩ (.int .i64 i)).setCell ⟨b2, 1, none⟩ (.int .i64 d)).setCell ⟨b2, 2, none⟩ (.int .i64 c)).setCell ⟨b2, 3, none⟩ (.string b)).setCell ⟨b2, 4, none⟩ (.int .i64 a)).setCell ⟨b2, 5, none⟩ (.int .i64 t)).setCell ⟨b2, 6, none⟩ (.int .i64 r)).setCell ⟨b2, 7, none⟩ (.int .i64 n)).setCell ⟨b2, 8, none⟩ (.int .i64 s)) b2 #[.int .i64 i, .int .i64 d, .int .i64 c, .string b, .int .i64 a, .int .i64 t, .int .i64 r, .int .i64 n, .int .i64 s] ∧ Went B w0 (((((((((w.setCell ⟨b2, 0, none⟩ (.int .i64 i)).setCell ⟨b2, 1, none⟩ (.int .i64 d)).setCell ⟨b2, 2, none⟩ (.int .i64 c)).setCell ⟨b2, 3, none⟩ (.string b)).setCell ⟨b2, 4, none⟩ (.int .i64 a)).setCell ⟨b2, 5, none⟩ (.int .i64 t)).setCell ⟨b2, 6, none⟩ (.int .i64 r)).setCell ⟨b2, 7, none⟩ (.int .i64 n)).setCell ⟨b2, 8, none⟩ (.int .i64 s)) cb 45 a0 len0 cap0 := by
  have hB2 := Nat.le_trans h.hB h.g2
  exact ⟨h.z.fin i d c b a t r n s, went_set (went_set (went_set (went_set (went_set (went_set (went_set (went_set (went_set h.wn hB2 h.g2 h.n2 0 _) hB2 h.g2 h.n2 1 _) hB2 h.g2 h.n2 2 _) hB2 h.g2 h.n2 3 _) hB2 h.g2 h.n2 4 _) hB2 h.g2 h.n2 5 _) hB2 h.g2 h.n2 6 _) hB2 h.g2 h.n2 7 _) hB2 h.g2 h.n2 8 _⟩
end
theorem low_fin {B : Nat} {w0 w : World} (h : Below B w0 w) {k : Nat} (hk : B ≤ k) (i d c : Int) (b : ByteArray) (a t r n s : Int) : Below B w0 (((((((((w.setCell ⟨k, 0, none⟩ (.int .i64 i)).setCell ⟨k, 1, none⟩ (.int .i64 d)).setCell ⟨k, 2, none⟩ (.int .i64 c)).setCell ⟨k, 3, none⟩ (.string b)).setCell ⟨k, 4, none⟩ (.int .i64 a)).setCell ⟨k, 5, none⟩ (.int .i64 t)).setCell ⟨k, 6, none⟩ (.int .i64 r)).setCell ⟨k, 7, none⟩ (.int .i64 n)).setCell ⟨k, 8, none⟩ (.int .i64 s)) := ((((((((h.setCell hk _).setCell hk _).setCell hk _).setCell hk _).setCell hk _).setCell hk _).setCell hk _).setCell hk _).setCell hk _

/-- a list of texts in a block of its own -/
def Txts (w : World) (g n : Nat) (Pz : ByteArray → Prop) : Prop := ∀ j, j < n → ∃ z : ByteArray, Pz z ∧ w.cell? ⟨g, j, none⟩ = some (.string z)
theorem txts_new (w : World) (cs : List Value) (T : TypeId) (Pz : ByteArray → Prop) (h : ∀ v ∈ cs, ∃ z : ByteArray, v = .string z ∧ Pz z) : Txts (w.alloc (.cells cs.toArray T)) w.heap.size cs.length Pz := by
  intro j hj
  obtain ⟨z, hv, hz⟩ := h cs[j] (List.getElem_mem hj)
  refine ⟨z, hz, ?_⟩
  have hb : (w.alloc (.cells cs.toArray T)).heap[w.heap.size]? = some (.cells cs.toArray T (0, 0)) := heap_alloc_new w _
  rw [cell_of_row _ _ j _ T (0, 0) hb]
  simp [hj, hv]
set_option maxHeartbeats 400000 in
theorem pick_draw (w : World) (cb B : Nat) (a : Option Addr) (len cap : Nat) (hd : Dr B w cb 45 a len cap) (g n : Nat) (Pz : ByteArray → Prop) (hn : Txts w g n Pz) (hg : g ≠ cb) (h1 : 1 ≤ n) (h2 : n ≤ 100) :
    Calls Tryd.prog 30 #[.pointer (some ⟨cb, 0, none⟩), .slice (some ⟨g, 0, none⟩) n n] w fun e w' => (∃ z : ByteArray, e = .returned (.string z) ∧ Pz z) ∧ Went B w w' cb 45 a len cap := by
  have HN := Lib.hid hn
  clear hn
  go_enter Tryd.func30, Tryd.ntmps30
  go_wp2_with fail
  refine (below_draw _ cb B a len cap hd _ (by omega) (by omega)).mono ?_
  rintro e w1 ⟨⟨x, rfl, hx0, hx1⟩, hw⟩
  obtain ⟨k, rfl⟩ := Int.eq_ofNat_of_zero_le hx0
  obtain ⟨z, hz, hcz⟩ := HN.out k (by omega)
  have hc1 : w1.cell? ⟨g, k, none⟩ = some (.string z) := hw.grown.cell hcz (by simpa using hg)
  clear hcz
  go_wp2_with fail
  go_ret
  exact ⟨⟨z, rfl, hz⟩, hw⟩
end Go.Proofs.YtjcopkjapnieoaaDoor.Evt
