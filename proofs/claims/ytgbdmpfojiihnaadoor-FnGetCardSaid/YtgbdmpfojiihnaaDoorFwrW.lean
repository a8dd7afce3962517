/-
  The writer of frames: what it holds; its methods 'text' and 'number'; 'tellNumbers' with 'number' bound.
-/
import Derived.Test.YtgbdmpfojiihnaaDoorFrxW
import Derived.Test.YtgbdmpfojiihnaaDoorPutW
import Derived.Test.YtgbdmpfojiihnaaDoorCheckW
import Derived.Lib.AppendStr
namespace Go.Proofs.YtgbdmpfojiihnaaDoor.Frm
open Go.RowKit Go.Proofs.YtgbdmpfojiihnaaDoor.Num Go.Proofs.YtgbdmpfojiihnaaDoor.Kit
set_option linter.unusedVariables false

/-- a writer whose box was laid at the world w1, as it is in the world w -/
structure Wr (w1 w : World) (v : Value) (l : List UInt8) : Prop where
  bel : Below w1.heap.size w1 w
  cell : w.cell? ⟨w1.heap.size, 0, none⟩ = some v
  fro : w.frozen? ⟨w1.heap.size, 0, none⟩ = false
  lt : w1.heap.size < w.heap.size
  own : w.ownsRow (w1.heap.size + 1) 5 1 v l.length (Lib.byteCells l)
theorem Wr.new (w1 : World) : Wr w1 (w1.alloc (.cells #[.slice none 0 0] 51)) (.slice none 0 0) [] :=
  ⟨bOne _ _, cell_of_row _ _ 0 _ 51 (0, 0) (heap_alloc_new w1 _), by simp [go_sem], by simp, World.ownsRow_nil _ _ _ _⟩
theorem Wr.below {w1 w w' : World} {v : Value} {l : List UInt8} (h : Wr w1 w v l) (hb : Below w.heap.size w w') : Wr w1 w' v l :=
  ⟨bAfter h.bel hb (Nat.le_of_lt h.lt), (hb.cell (p := ⟨w1.heap.size, 0, none⟩) h.lt).trans h.cell, (World.frozen?_of_block (hb.block _ h.lt)).trans h.fro, Nat.lt_of_lt_of_le h.lt hb.size, World.ownsRow.kept h.own (row := none) ⟨hb.os, hb.tape, hb.output, hb.size, fun k hk _ => hb.block k hk⟩ (by cases h0 : v.ownBlock with | none => exact .inl rfl | some k => exact .inr (by simp))⟩
theorem cells_cat (l : List UInt8) (s : ByteArray) : Lib.byteCells l ++ Lib.strCells s = Lib.byteCells (l ++ s.data.toList) := by simp [Lib.byteCells, Lib.strCells]
theorem Wr.grown {w1 w w' : World} {v v' : Value} {l : List UInt8} {s : ByteArray} (h : Wr w1 w v l) (ho : w'.ownsRow (w1.heap.size + 1) 5 1 v' (l.length + s.size) (Lib.byteCells l ++ Lib.strCells s)) (hg : w.grownBy w' v.ownBlock) :
    w'.cell? ⟨w1.heap.size, 0, none⟩ = some v ∧ w'.frozen? ⟨w1.heap.size, 0, none⟩ = false ∧ Wr w1 (w'.setCell ⟨w1.heap.size, 0, none⟩ v') v' (l ++ s.data.toList) := by
  have hne : some w1.heap.size ≠ v.ownBlock := by
    intro e
    have := (World.ownsRow.lt h.own _ e.symm).1
    omega
  have hbk := hg.block _ h.lt hne
  have hc : w'.cell? ⟨w1.heap.size, 0, none⟩ = some v := (World.cell?_of_block hbk).trans h.cell
  have hf : w'.frozen? ⟨w1.heap.size, 0, none⟩ = false := (World.frozen?_of_block hbk).trans h.fro
  have hlt := Nat.lt_of_lt_of_le h.lt hg.size
  refine ⟨hc, hf, ⟨(h.bel.grown hg (Nat.le_of_lt h.lt) (fun k e => by have := (World.ownsRow.lt h.own _ e).1; omega)).setCell (Nat.le_refl _) _, ?_, ?_, by simpa using hlt, ?_⟩⟩
  · exact World.cell?_setCell_same _ _ _ hc
  · simpa [go_sem] using hf
  · rw [List.length_append, show s.data.toList.length = s.size by rw [bytes_len], ← cells_cat]
    exact ownsRow_setCell_below ho (by simp) _
theorem row_shape {w : World} {B : Nat} {e : TypeId} {v : Value} {n : Nat} {xs : List Value} (h : w.ownsRow B e 1 v n xs) : ∃ a c, v = .slice a n c := by
  rcases h.2 with ⟨rfl, rfl⟩ | ⟨g, cap, cur, rfl, _⟩
  · exact ⟨_, _, rfl⟩
  · exact ⟨_, _, rfl⟩
/-- what else lies (no row of bytes, and not the writer's box) stays -/
def Stay (w1 w w' : World) : Prop := ∀ (b : Nat) (cs : Array Value) (ty : TypeId) (fz : Nat × Nat), w.heap[b]? = some (.cells cs ty fz) → ty ≠ 5 → b ≠ w1.heap.size → w'.heap[b]? = some (.cells cs ty fz)
theorem Stay.trans {w1 w w' w'' : World} (h : Stay w1 w w') (h2 : Stay w1 w' w'') : Stay w1 w w'' := fun b cs ty fz hb ht hn => h2 b cs ty fz (h b cs ty fz hb ht hn) ht hn
theorem at_lt {w : World} {b : Nat} {o : Obj} (h : w.heap[b]? = some o) : b < w.heap.size := (Array.getElem?_eq_some_iff.1 h).1
theorem Stay.of_below {w1 w w' : World} (h : Below w.heap.size w w') : Stay w1 w w' := fun b _ _ _ hb _ _ => (h.block b (at_lt hb)).trans hb
theorem Stay.of_grown {w1 w w' : World} {v v' : Value} {l : List UInt8} (h : Wr w1 w v l) (hg : w.grownBy w' v.ownBlock) : Stay w1 w (w'.setCell ⟨w1.heap.size, 0, none⟩ v') := fun b cs ty fz hb ht hn => by
  have hne : some b ≠ v.ownBlock := by
    intro e
    rcases h.own.2 with ⟨rfl, _⟩ | ⟨g, cap, cur, rfl, _, hgb, _⟩
    · simp [Value.ownBlock] at e
    · simp [Value.ownBlock] at e
      subst e
      rw [hgb] at hb
      simp only [Option.some.injEq, Obj.cells.injEq] at hb
      exact ht hb.2.1.symm
  rw [heap_setCell_other w' _ b _ (fun e => hn (by simpa using e)), hg.block b (at_lt hb) hne]
  exact hb
theorem B6.at {w : World} {a : Nat} {k d e s i : Int} {b : ByteArray} {ty : TypeId} {fz : Nat × Nat} (h : w.heap[a]? = some (.cells #[.int .i64 k, .int .i64 d, .int .i64 e, .int .i64 s, .int .i64 i, .string b] ty fz)) : B6 w a k d e s i b :=
  ⟨cell_of_row _ _ 0 _ ty fz h, cell_of_row _ _ 1 _ ty fz h, cell_of_row _ _ 2 _ ty fz h, cell_of_row _ _ 3 _ ty fz h, cell_of_row _ _ 4 _ ty fz h, cell_of_row _ _ 5 _ ty fz h, at_lt h⟩
theorem infoU8 : (Tryd.prog.info? 5).map (fun i => (i.zero, i.size, i.bytes)) = some (some (.int .u8 0), 1, 1) := by kernel_rfl

set_option maxRecDepth 100000 in
theorem text_any (w1 w : World) (v : Value) (l : List UInt8) (s : ByteArray) (h : Wr w1 w v l) (hn : l.length + s.size ≤ 1000000) :
    Calls Tryd.prog 29 #[.pointer (some ⟨w1.heap.size, 0, none⟩), .string s] w fun e w' => e = .returned (.tuple #[]) ∧ (∃ v', Wr w1 w' v' (l ++ s.data.toList)) ∧ Stay w1 w w' := by
  obtain ⟨i0, hi, hz0, hz1, hz2⟩ := info_parts infoU8
  have c0 := h.cell
  have hown := h.own
  have hsz := h.lt
  have HW := Lib.hid h
  clear h
  go_enter Tryd.func29, Tryd.ntmps29
  go_wp2_with (at_builtin; refine Lib.wpList_append_own_string _ rfl _ _ 22 9 rfl (w1.heap.size + 1) 5 i0 Tryd.underlying22 Tryd.underlying9 hi hz0 hz1 hz2 v l.length _ rfl hown s rfl (by unfold maxLen; omega) (by omega) (by omega) ?_; intro v' w' hown' hg' _; obtain ⟨a', c', rfl⟩ := row_shape hown'; obtain ⟨d0, f0, HN⟩ := HW.out.grown hown' hg'; have HST := Lib.hid (Stay.of_grown (v' := .slice a' (l.length + s.size) c') HW.out hg'))
  go_end0
  exact ⟨rfl, ⟨_, HN⟩, HST.out⟩

set_option maxRecDepth 100000 in
theorem number_any (w1 w : World) (v : Value) (l : List UInt8) (n b : Int) (h : Wr w1 w v l) (hn : l.length ≤ 100000) (wn : (Lit.int .i64 n).wf = true) :
    Calls Tryd.prog 37 #[.pointer (some ⟨w1.heap.size, 0, none⟩), .int .i64 n, .int .i64 b] w fun e w' => e = .returned (.tuple #[]) ∧ (∃ v', Wr w1 w' v' (l ++ putVal n b)) ∧ Stay w1 w w' := by
  have HW := Lib.hid h
  have HN := Lib.hid wn
  have hlen : (putVal n b).length ≤ 4 := by
    unfold putVal
    split
    · rename_i h; unfold putOk at h; rw [pb_len]; omega
    · simp
  clear h wn
  go_enter Tryd.func37, Tryd.ntmps37
  go_wp2_with fail
  refine (putNum_any n b _ HN.out).mono ?_
  rintro e w2 ⟨rfl, hb2⟩
  have HW2 := Lib.hid (HW.out.below hb2)
  have HS2 := Lib.hid (Stay.of_below (w1 := w1) hb2)
  go_wp2_with fail
  refine (text_any w1 _ v l ⟨(putVal n b).toArray⟩ HW2.out (by show _ + (putVal n b).toArray.size ≤ _; simp; omega)).mono ?_
  rintro e w3 ⟨rfl, ⟨v3, h3⟩, hs3⟩
  go_wp2_with fail
  go_end0
  exact ⟨rfl, ⟨v3, by simpa using h3⟩, HS2.out.trans hs3⟩

theorem putVal_le (n b : Int) : (putVal n b).length ≤ 4 := by
  unfold putVal
  split
  · rename_i h; unfold putOk at h; rw [pb_len]; omega
  · simp
/-- what four numbers leave -/
def fourB (d e s i : Int) : List UInt8 := putVal d 1 ++ putVal e 2 ++ putVal s 2 ++ putVal i 2
set_option maxRecDepth 100000 in
theorem tell_any (w1 w : World) (v : Value) (l : List UInt8) (k d e s i : Int) (b : ByteArray) (h : Wr w1 w v l) (hn : l.length ≤ 1000) (wd : (Lit.int .i64 d).wf = true) (we : (Lit.int .i64 e).wf = true) (ws : (Lit.int .i64 s).wf = true) (wi : (Lit.int .i64 i).wf = true) :
    Calls Tryd.prog 31 #[.agg #[.int .i64 k, .int .i64 d, .int .i64 e, .int .i64 s, .int .i64 i, .string b], .func (.func 37) #[.pointer (some ⟨w1.heap.size, 0, none⟩)] #[]] w fun en w' => en = .returned (.tuple #[]) ∧ (∃ v', Wr w1 w' v' (l ++ fourB d e s i)) ∧ Stay w1 w w' := by
  have HB0 := Lib.hid (show (w.alloc (.cells #[.int .i64 k, .int .i64 d, .int .i64 e, .int .i64 s, .int .i64 i, .string b] 26)).heap[w.heap.size]? = some (.cells #[.int .i64 k, .int .i64 d, .int .i64 e, .int .i64 s, .int .i64 i, .string b] 26 (0, 0)) from heap_alloc_new w _)
  have HW := Lib.hid (h.below (bOne w (.cells #[.int .i64 k, .int .i64 d, .int .i64 e, .int .i64 s, .int .i64 i, .string b] 26)))
  have HS0 := Lib.hid (Stay.of_below (w1 := w1) (bOne w (.cells #[.int .i64 k, .int .i64 d, .int .i64 e, .int .i64 s, .int .i64 i, .string b] 26)))
  have HNE := Lib.hid (show w.heap.size ≠ w1.heap.size by have := h.lt; omega)
  have HWF := Lib.hid (And.intro wd (And.intro we (And.intro ws wi)))
  have hl1 : (putVal d 1).length ≤ 4 := putVal_le d 1
  have hl2 : (putVal e 2).length ≤ 4 := putVal_le e 2
  have hl3 : (putVal s 2).length ≤ 4 := putVal_le s 2
  clear h wd we ws wi
  go_enter Tryd.func31, Tryd.ntmps31
  go_wp2_with fail
  refine (number_any w1 _ v l d 1 HW.out (by omega) HWF.out.1).mono ?_
  rintro en w2 ⟨rfl, ⟨v2, h2⟩, s2⟩
  have HH2 := Lib.hid (s2 _ _ _ _ HB0.out (by decide) HNE.out)
  have HS2 := Lib.hid (HS0.out.trans s2)
  have HW2 := Lib.hid h2
  have HC2 := Lib.hid (B6.at HH2.out)
  clear h2 s2 HB0 HW HS0
  obtain ⟨c0, c1, c2, c3, c4, c5, hlt⟩ := HC2.out
  go_wp2_with fail
  refine (number_any w1 _ v2 _ e 2 HW2.out (by simp only [List.length_append]; omega) HWF.out.2.1).mono ?_
  rintro en w3 ⟨rfl, ⟨v3, h3⟩, s3⟩
  have HH3 := Lib.hid (s3 _ _ _ _ HH2.out (by decide) HNE.out)
  have HS3 := Lib.hid (HS2.out.trans s3)
  have HW3 := Lib.hid h3
  have HC3 := Lib.hid (B6.at HH3.out)
  clear h3 s3 HH2 HW2 HS2 HC2 c0 c1 c2 c3 c4 c5 hlt
  obtain ⟨c0, c1, c2, c3, c4, c5, hlt⟩ := HC3.out
  go_wp2_with fail
  refine (number_any w1 _ v3 _ s 2 HW3.out (by simp only [List.length_append]; omega) HWF.out.2.2.1).mono ?_
  rintro en w4 ⟨rfl, ⟨v4, h4⟩, s4⟩
  have HH4 := Lib.hid (s4 _ _ _ _ HH3.out (by decide) HNE.out)
  have HS4 := Lib.hid (HS3.out.trans s4)
  have HW4 := Lib.hid h4
  have HC4 := Lib.hid (B6.at HH4.out)
  clear h4 s4 HH3 HW3 HS3 HC3 c0 c1 c2 c3 c4 c5 hlt
  obtain ⟨c0, c1, c2, c3, c4, c5, hlt⟩ := HC4.out
  go_wp2_with fail
  refine (number_any w1 _ v4 _ i 2 HW4.out (by simp only [List.length_append]; omega) HWF.out.2.2.2).mono ?_
  rintro en w5 ⟨rfl, ⟨v5, h5⟩, s5⟩
  have HS5 := Lib.hid (HS4.out.trans s5)
  have HW5 := Lib.hid h5
  clear h5 s5 HH4 HW4 HS4 HC4 c0 c1 c2 c3 c4 c5 hlt
  go_wp2_with fail
  go_end0
  exact ⟨rfl, ⟨v5, by have := HW5.out; simpa [fourB, List.append_assoc] using this⟩, HS5.out⟩
end Go.Proofs.YtgbdmpfojiihnaaDoor.Frm
