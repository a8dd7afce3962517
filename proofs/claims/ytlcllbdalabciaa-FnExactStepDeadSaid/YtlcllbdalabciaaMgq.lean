/-
  Plain facts on numbers read from bytes, the highest first. No Go in sight.
  Plain facts on the bytes of a number, the highest first. No Go in sight.
  Plain facts on the sum that the function Check makes over a list of bytes. No Go in sight.
  Plain facts on frames: when one is right, its bytes. No Go in sight.
  The walks of FrameOk, of the program and of the specification, and of the law FnExactFrameOk.
  The walk of the specification's FrameOk.
  How the exact laws take a frame: its size, its copy, two frames compared; the walk of the law FnExactFrameOk.
  The walks of GetNum, of the program and of the specification: both return gnVal, and turn nothing.
  The walks of PutNum, of the program and of the specification.
  The walks of Check, of the program and of the specification: both return ckVal of the bytes, and turn nothing.
  The writer of frames: what it holds; its methods 'text' and 'number'; 'tellNumbers' with 'number' bound.
  The walk of the specification's PutFrame.
  The walk of the program's PutFrame, and of the law FnExactPutFrame.
  Plain facts on what bytes tell of a frame. No Go in sight.
  The walk of the specification's GetFrame.
  Plain facts on frames: a right frame comes back from its bytes; bytes that can be read tell their length. No Go in sight.
-/
import Derived.Below
import Derived.Test.YtlcllbdalabciaaProg
import Derived.WalkKit
import Derived.WalkSpells
import Derived.WalkLawsBesides
import Derived.Lib.Hide
import Derived.Deep.QuietTactic
import Derived.BigQuiet
import Derived.IntWalk
import Derived.Lib.Strings
import Derived.Test.YtlcllbdalabciaaMge
import Derived.Lib.AppendStr
import Derived.Deep.RegionHeld3
import Derived.Laws.Concat
import Derived.Deep.DeepCutAuto
namespace Go.Proofs.Ytlcllbdalabciaa.Num
open Go.RowKit

def gn (l : List UInt8) : Nat := l.foldl (fun n c => n * 256 + c.toNat) 0
theorem gn_snoc (l : List UInt8) (c : UInt8) : gn (l ++ [c]) = gn l * 256 + c.toNat := by
  unfold gn; rw [List.foldl_append]; rfl
/-- the bytes that GetNum reads: n of them from place p on -/
def gcut (s : ByteArray) (p n : Nat) : List UInt8 := (s.data.toList.drop p).take n
def gnOk (s : ByteArray) (p n : Int) : Prop := 1 ≤ n ∧ n ≤ 4 ∧ 0 ≤ p ∧ p ≤ s.size - n
instance (s : ByteArray) (p n : Int) : Decidable (gnOk s p n) := by unfold gnOk; infer_instance
def gnVal (s : ByteArray) (p n : Int) : Int := if gnOk s p n then (gn (gcut s p.toNat n.toNat) : Int) else -1
theorem gnVal_ok {s : ByteArray} {p n : Int} (h : gnOk s p n) : gnVal s p n = (gn (gcut s p.toNat n.toNat) : Int) := if_pos h
end Go.Proofs.Ytlcllbdalabciaa.Num
namespace Go.Proofs.Ytlcllbdalabciaa.Num
open Go.RowKit

def pb : Nat → Nat → List UInt8
  | 0, _ => []
  | b + 1, n => pb b (n / 256) ++ [UInt8.ofNat n]
theorem pb_len (b : Nat) : ∀ n, (pb b n).length = b := by
  induction b with
  | zero => intro n; rfl
  | succ b ih => intro n; rw [pb, List.length_append, ih]; rfl
theorem gn_pb (b : Nat) : ∀ n, gn (pb b n) = n % 256 ^ b := by
  induction b with
  | zero => intro n; simp [pb, gn, Nat.mod_one]
  | succ b ih =>
    intro n
    rw [pb, gn_snoc, ih, Nat.pow_succ, UInt8.toNat_ofNat', Nat.mul_comm (256 ^ b) 256, Nat.mod_mul]
    omega
/-- what PutNum tells, for all numbers -/
def putOk (n b : Int) : Prop := 0 ≤ n ∧ 1 ≤ b ∧ b ≤ 4
instance (n b : Int) : Decidable (putOk n b) := by unfold putOk; infer_instance
def putVal (n b : Int) : List UInt8 := if putOk n b then pb b.toNat n.toNat else []
theorem putVal_ok {n b : Int} (h : putOk n b) : putVal n b = pb b.toNat n.toNat := if_pos h
end Go.Proofs.Ytlcllbdalabciaa.Num
namespace Go.Proofs.Ytlcllbdalabciaa
open Go.RowKit

/-- one step of the sum: (a, b) behind one byte more -/
def ckStep (p : Nat × Nat) (c : UInt8) : Nat × Nat := ((p.1 + c.toNat) % 255, (p.2 + (p.1 + c.toNat) % 255) % 255)
def ck (l : List UInt8) : Nat × Nat := l.foldl ckStep (0, 0)
def ckVal (l : List UInt8) : Int := 256 * ((ck l).2 : Int) + ((ck l).1 : Int)

theorem ck_snoc (l : List UInt8) (c : UInt8) : ck (l ++ [c]) = ckStep (ck l) c := by
  unfold ck; rw [List.foldl_append]; rfl
theorem ck_lt (l : List UInt8) : (ck l).1 < 255 ∧ (ck l).2 < 255 := by
  rcases List.eq_nil_or_concat l with h | ⟨t, c, h⟩
  · subst h; decide
  · subst h; rw [List.concat_eq_append, ck_snoc]; exact ⟨Nat.mod_lt _ (by decide), Nat.mod_lt _ (by decide)⟩
theorem ck_lt' (l : List UInt8) : ((ck l).1 : Int) < 255 ∧ ((ck l).2 : Int) < 255 := by
  have := ck_lt l; omega
end Go.Proofs.Ytlcllbdalabciaa
namespace Go.Proofs.Ytlcllbdalabciaa.Frm
open Go.RowKit Go.Proofs.Ytlcllbdalabciaa.Num
set_option linter.unusedVariables false

/-- a right frame, n bytes in its body -/
def FOk (k d e s i : Int) (n : Nat) : Prop :=
  1 ≤ k ∧ k ≤ 4 ∧ 1 ≤ d ∧ d ≤ 6 ∧ 0 ≤ e ∧ e ≤ 60000 ∧ ((k = 3 ∧ s = 0) ∨ (k ≠ 3 ∧ 1 ≤ s ∧ s ≤ 60000)) ∧ ((k = 1 ∧ 1 ≤ i ∧ i ≤ 9999 ∧ n ≤ 40) ∨ (k ≠ 1 ∧ i = 0 ∧ n = 0))
instance (k d e s i : Int) (n : Nat) : Decidable (FOk k d e s i n) := by unfold FOk; infer_instance
theorem FOk.bounds {k d e s i : Int} {n : Nat} (h : FOk k d e s i n) : 0 ≤ k ∧ k ≤ 4 ∧ 0 ≤ d ∧ d ≤ 6 ∧ 0 ≤ e ∧ e ≤ 60000 ∧ 0 ≤ s ∧ s ≤ 60000 ∧ 0 ≤ i ∧ i ≤ 9999 ∧ n ≤ 40 := by unfold FOk at h; omega

/-- the bytes ahead of the sum -/
def head (k d e s i : Int) (b : List UInt8) : List UInt8 :=
  putVal k 1 ++ putVal d 1 ++ putVal e 2 ++ putVal s 2 ++ putVal i 2 ++ putVal b.length 1 ++ b
/-- a frame's bytes -/
def frBytes (k d e s i : Int) (b : List UInt8) : List UInt8 := head k d e s i b ++ putVal (ckVal (head k d e s i b)) 2
def putF (k d e s i : Int) (b : List UInt8) : List UInt8 := if FOk k d e s i b.length then frBytes k d e s i b else []
theorem putF_yes {k d e s i : Int} {b : List UInt8} (h : FOk k d e s i b.length) : putF k d e s i b = frBytes k d e s i b := if_pos h
theorem putF_no {k d e s i : Int} {b : List UInt8} (h : ¬ FOk k d e s i b.length) : putF k d e s i b = [] := if_neg h
theorem putVal_len {n b : Int} (h0 : 0 ≤ n) (h1 : 1 ≤ b) (h4 : b ≤ 4) : (putVal n b).length = b.toNat := by rw [putVal_ok ⟨h0, h1, h4⟩, pb_len]
theorem ckVal_bd (l : List UInt8) : 0 ≤ ckVal l ∧ ckVal l ≤ 65278 := by
  have := ck_lt' l
  unfold ckVal
  omega
theorem head_len {k d e s i : Int} {b : List UInt8} (h : FOk k d e s i b.length) : (head k d e s i b).length = 9 + b.length := by
  obtain ⟨h1, h2, h3, h4, h5, h6, h7, h8, h9, h10, h11⟩ := h.bounds
  unfold head
  simp only [List.length_append]
  rw [putVal_len h1 (by omega) (by omega), putVal_len h3 (by omega) (by omega), putVal_len h5 (by omega) (by omega), putVal_len h7 (by omega) (by omega), putVal_len h9 (by omega) (by omega), putVal_len (by omega) (by omega) (by omega)]
  omega
theorem frBytes_len {k d e s i : Int} {b : List UInt8} (h : FOk k d e s i b.length) : (frBytes k d e s i b).length = 11 + b.length := by
  unfold frBytes
  rw [List.length_append, head_len h, putVal_len (ckVal_bd _).1 (by omega) (by omega)]
  omega
end Go.Proofs.Ytlcllbdalabciaa.Frm
namespace Go.Proofs.Ytlcllbdalabciaa.Frm
open Go.RowKit
set_option linter.unusedVariables false

theorem bool_iff {p q : Prop} [Decidable p] [Decidable q] (h : p ↔ q) : Ending.returned (.bool (decide p)) = Ending.returned (.bool (decide q)) := by rw [decide_eq_decide.2 h]
theorem bool_no {p : Prop} [Decidable p] (h : ¬ p) : Ending.returned (.bool false) = Ending.returned (.bool (decide p)) := by rw [decide_eq_false h]
theorem bytes_len (s : ByteArray) : s.data.toList.length = s.size := by rw [Array.length_toList]; rfl
theorem in_any (x a b : Int) (w : World) :
    Calls Try.prog 34 #[.int .i64 x, .int .i64 a, .int .i64 b] w fun e w' => e = .returned (.bool (decide (a ≤ x ∧ x ≤ b))) ∧ w = w' := by
  go_enter Try.func34, Try.ntmps34
  go_wp2
  all_goals
    go_ret
    refine ⟨?_, rfl⟩
    first
      | exact bool_iff (by omega)
      | exact bool_no (by omega)
      | (simp; intro; omega)

end Go.Proofs.Ytlcllbdalabciaa.Frm
namespace Go.Proofs.Ytlcllbdalabciaa.Frm
open Go.RowKit
set_option linter.unusedVariables false

end Go.Proofs.Ytlcllbdalabciaa.Frm
namespace Go.Proofs.Ytlcllbdalabciaa.Frm
open Go.RowKit
set_option linter.unusedVariables false

/-- a frame's box -/
structure B6 (w : World) (a : Nat) (k d e s i : Int) (b : ByteArray) : Prop where
  c0 : w.cell? ⟨a, 0, none⟩ = some (.int .i64 k)
  c1 : w.cell? ⟨a, 1, none⟩ = some (.int .i64 d)
  c2 : w.cell? ⟨a, 2, none⟩ = some (.int .i64 e)
  c3 : w.cell? ⟨a, 3, none⟩ = some (.int .i64 s)
  c4 : w.cell? ⟨a, 4, none⟩ = some (.int .i64 i)
  c5 : w.cell? ⟨a, 5, none⟩ = some (.string b)
  lt : a < w.heap.size
theorem B6.new (w : World) (k d e s i : Int) (b : ByteArray) (ty : TypeId) : B6 (w.alloc (.cells #[.int .i64 k, .int .i64 d, .int .i64 e, .int .i64 s, .int .i64 i, .string b] ty)) w.heap.size k d e s i b :=
  ⟨cell_of_row _ _ 0 _ ty (0, 0) (heap_alloc_new w _), cell_of_row _ _ 1 _ ty (0, 0) (heap_alloc_new w _), cell_of_row _ _ 2 _ ty (0, 0) (heap_alloc_new w _), cell_of_row _ _ 3 _ ty (0, 0) (heap_alloc_new w _), cell_of_row _ _ 4 _ ty (0, 0) (heap_alloc_new w _), cell_of_row _ _ 5 _ ty (0, 0) (heap_alloc_new w _), by simp⟩
theorem B6.below {w w' : World} {a : Nat} {k d e s i : Int} {b : ByteArray} (h : B6 w a k d e s i b) (hb : Below w.heap.size w w') : B6 w' a k d e s i b :=
  ⟨(hb.cell (p := ⟨a, 0, none⟩) h.lt).trans h.c0, (hb.cell (p := ⟨a, 1, none⟩) h.lt).trans h.c1, (hb.cell (p := ⟨a, 2, none⟩) h.lt).trans h.c2, (hb.cell (p := ⟨a, 3, none⟩) h.lt).trans h.c3, (hb.cell (p := ⟨a, 4, none⟩) h.lt).trans h.c4, (hb.cell (p := ⟨a, 5, none⟩) h.lt).trans h.c5, Nat.lt_of_lt_of_le h.lt hb.size⟩
theorem bOne (w : World) (o : Obj) : Below w.heap.size w (w.alloc o) := (Below.refl _ _).alloc (Nat.le_refl _) _
theorem bAfter {B : Nat} {a w w' : World} (h : Below B a w) (h2 : Below w.heap.size w w') (hB : B ≤ w.heap.size) : Below B a w' := h.trans (h2.mono hB)

end Go.Proofs.Ytlcllbdalabciaa.Frm
namespace Go.Proofs.Ytlcllbdalabciaa.Num
open Go.RowKit
set_option linter.unusedVariables false
end Go.Proofs.Ytlcllbdalabciaa.Num
namespace Go.Proofs.Ytlcllbdalabciaa.Num
open Go.RowKit Go.Proofs.Ytlcllbdalabciaa.Kit
set_option linter.unusedVariables false
end Go.Proofs.Ytlcllbdalabciaa.Num
namespace Go.Proofs.Ytlcllbdalabciaa
open Go.RowKit
set_option linter.unusedVariables false

end Go.Proofs.Ytlcllbdalabciaa
namespace Go.Proofs.Ytlcllbdalabciaa.Frm
open Go.RowKit Go.Proofs.Ytlcllbdalabciaa.Num Go.Proofs.Ytlcllbdalabciaa.Kit
set_option linter.unusedVariables false

/-- a writer whose box was laid at the world w1, as it is in the world w -/
structure Wr (w1 w : World) (v : Value) (l : List UInt8) : Prop where
  bel : Below w1.heap.size w1 w
  cell : w.cell? ⟨w1.heap.size, 0, none⟩ = some v
  fro : w.frozen? ⟨w1.heap.size, 0, none⟩ = false
  lt : w1.heap.size < w.heap.size
  own : w.ownsRow (w1.heap.size + 1) 5 1 v l.length (Lib.byteCells l)
theorem Wr.below {w1 w w' : World} {v : Value} {l : List UInt8} (h : Wr w1 w v l) (hb : Below w.heap.size w w') : Wr w1 w' v l :=
  ⟨bAfter h.bel hb (Nat.le_of_lt h.lt), (hb.cell (p := ⟨w1.heap.size, 0, none⟩) h.lt).trans h.cell, (World.frozen?_of_block (hb.block _ h.lt)).trans h.fro, Nat.lt_of_lt_of_le h.lt hb.size, World.ownsRow.kept h.own (row := none) ⟨hb.os, hb.tape, hb.output, hb.size, fun k hk _ => hb.block k hk⟩ (by cases h0 : v.ownBlock with | none => exact .inl rfl | some k => exact .inr (by simp))⟩
theorem cells_cat (l : List UInt8) (s : ByteArray) : Lib.byteCells l ++ Lib.strCells s = Lib.byteCells (l ++ s.data.toList) := by simp [Lib.byteCells, Lib.strCells]
theorem Wr.grown {w1 w w' : World} {v v' : Value} {l : List UInt8} {s : ByteArray} (h : Wr w1 w v l) (ho : w'.ownsRow (w1.heap.size + 1) 5 1 v' (l.length + s.size) (Lib.byteCells l ++ Lib.strCells s)) (hg : w.grownBy w' v.ownBlock) :
    w'.cell? ⟨w1.heap.size, 0, none⟩ = some v ∧ w'.frozen? ⟨w1.heap.size, 0, none⟩ = false ∧ Wr w1 (w'.setCell ⟨w1.heap.size, 0, none⟩ v') v' (l ++ s.data.toList) := by
  have hne : some w1.heap.size ≠ v.ownBlock := by
    intro e
    have := (World.ownsRow.lt h.own _ e.symm).1
    omega
  have hbk := hg.block _ h.lt hne
  have hc : w'.cell? ⟨w1.heap.size, 0, none⟩ = some v := (World.cell?_of_block hbk).trans h.cell
  have hf : w'.frozen? ⟨w1.heap.size, 0, none⟩ = false := (World.frozen?_of_block hbk).trans h.fro
  have hlt := Nat.lt_of_lt_of_le h.lt hg.size
  refine ⟨hc, hf, ⟨(h.bel.grown hg (Nat.le_of_lt h.lt) (fun k e => by have := (World.ownsRow.lt h.own _ e).1; omega)).setCell (Nat.le_refl _) _, ?_, ?_, by simpa using hlt, ?_⟩⟩
  · exact World.cell?_setCell_same _ _ _ hc
  · simpa [go_sem] using hf
  · rw [List.length_append, show s.data.toList.length = s.size by rw [bytes_len], ← cells_cat]
    exact ownsRow_setCell_below ho (by simp) _
/-- what else lies (no row of bytes, and not the writer's box) stays -/
def Stay (w1 w w' : World) : Prop := ∀ (b : Nat) (cs : Array Value) (ty : TypeId) (fz : Nat × Nat), w.heap[b]? = some (.cells cs ty fz) → ty ≠ 5 → b ≠ w1.heap.size → w'.heap[b]? = some (.cells cs ty fz)
theorem Stay.trans {w1 w w' w'' : World} (h : Stay w1 w w') (h2 : Stay w1 w' w'') : Stay w1 w w'' := fun b cs ty fz hb ht hn => h2 b cs ty fz (h b cs ty fz hb ht hn) ht hn
theorem at_lt {w : World} {b : Nat} {o : Obj} (h : w.heap[b]? = some o) : b < w.heap.size := (Array.getElem?_eq_some_iff.1 h).1
theorem B6.at {w : World} {a : Nat} {k d e s i : Int} {b : ByteArray} {ty : TypeId} {fz : Nat × Nat} (h : w.heap[a]? = some (.cells #[.int .i64 k, .int .i64 d, .int .i64 e, .int .i64 s, .int .i64 i, .string b] ty fz)) : B6 w a k d e s i b :=
  ⟨cell_of_row _ _ 0 _ ty fz h, cell_of_row _ _ 1 _ ty fz h, cell_of_row _ _ 2 _ ty fz h, cell_of_row _ _ 3 _ ty fz h, cell_of_row _ _ 4 _ ty fz h, cell_of_row _ _ 5 _ ty fz h, at_lt h⟩
end Go.Proofs.Ytlcllbdalabciaa.Frm
namespace Go.Proofs.Ytlcllbdalabciaa.Frm
open Go.RowKit Go.Proofs.Ytlcllbdalabciaa.Num
set_option linter.unusedVariables false

theorem low_alloc {W w : World} (h : Below W.heap.size W w) (o : Obj) : Below W.heap.size W (w.alloc o) := h.alloc h.size _
theorem low_after {W w w1 : World} (h : Below W.heap.size W w) (h2 : Below w.heap.size w w1) : Below W.heap.size W w1 := bAfter h h2 h.size
end Go.Proofs.Ytlcllbdalabciaa.Frm
namespace Go.Proofs.Ytlcllbdalabciaa.Frm
open Go.RowKit Go.Proofs.Ytlcllbdalabciaa.Num Go.Proofs.Ytlcllbdalabciaa.Kit
set_option linter.unusedVariables false

end Go.Proofs.Ytlcllbdalabciaa.Frm
namespace Go.Proofs.Ytlcllbdalabciaa.Frm
open Go.RowKit Go.Proofs.Ytlcllbdalabciaa.Num
set_option linter.unusedVariables false

/-- the frame that a text's bytes would be -/
def gK (s : ByteArray) : Int := gnVal s 0 1
def gD (s : ByteArray) : Int := gnVal s 1 1
def gE (s : ByteArray) : Int := gnVal s 2 2
def gS (s : ByteArray) : Int := gnVal s 4 2
def gI (s : ByteArray) : Int := gnVal s 6 2
def gB (s : ByteArray) (m : Nat) : ByteArray := s.extract 9 m
/-- the bytes of the frame that a text of m bytes and a sum would be -/
def gP (s : ByteArray) (m : Nat) : List UInt8 := putF (gK s) (gD s) (gE s) (gS s) (gI s) (gB s m).data.toList
/-- the sum is the bytes' own -/
def sumOk (s : ByteArray) (m : Nat) : Prop := gnVal s (m : Int) 2 = ckVal (List.take m s.data.toList)
instance (s : ByteArray) (m : Nat) : Decidable (sumOk s m) := by unfold sumOk; infer_instance
/-- what reading tells: 0, or why not -/
def gcode (s : ByteArray) : Int :=
  if s.size < 11 then 1 else if ¬ sumOk s (s.size - 2) then 2 else if gP s (s.size - 2) = s.data.toList then 0 else 3
theorem gcode_short {s : ByteArray} (h : s.size < 11) : gcode s = 1 := if_pos h
theorem gcode_sum {s : ByteArray} {m : Nat} (hm : s.size = m + 2) (h : ¬ s.size < 11) (h2 : ¬ sumOk s m) : gcode s = 2 := by
  rw [gcode, if_neg h, show s.size - 2 = m by omega, if_pos h2]
theorem gcode_form {s : ByteArray} {m : Nat} (hm : s.size = m + 2) (h : ¬ s.size < 11) (h2 : sumOk s m) (h3 : gP s m ≠ s.data.toList) : gcode s = 3 := by
  rw [gcode, if_neg h, show s.size - 2 = m by omega, if_neg (fun x => x h2), if_neg h3]
theorem gcode_ok {s : ByteArray} {m : Nat} (hm : s.size = m + 2) (h : ¬ s.size < 11) (h2 : sumOk s m) (h3 : gP s m = s.data.toList) : gcode s = 0 := by
  rw [gcode, if_neg h, show s.size - 2 = m by omega, if_neg (fun x => x h2), if_pos h3]
theorem ext_size (s : ByteArray) (i j : Nat) (hj : j ≤ s.size) : (s.extract i j).size = j - i := by
  rw [ByteArray.size_extract]; omega
end Go.Proofs.Ytlcllbdalabciaa.Frm
namespace Go.Proofs.Ytlcllbdalabciaa.Frm
open Go.RowKit Go.Proofs.Ytlcllbdalabciaa.Num
set_option linter.unusedVariables false

/-- what GetFrame tells: the frame and the code -/
def GotE (s : ByteArray) (en : Ending) : Prop :=
  (gcode s = 0 ∧ en = .returned (.tuple #[.agg #[.int .i64 (gK s), .int .i64 (gD s), .int .i64 (gE s), .int .i64 (gS s), .int .i64 (gI s), .string (gB s (s.size - 2))], .int .i64 0])) ∨
  (gcode s ≠ 0 ∧ en = .returned (.tuple #[.agg #[.int .i64 0, .int .i64 0, .int .i64 0, .int .i64 0, .int .i64 0, .string ByteArray.empty], .int .i64 (gcode s)]))

end Go.Proofs.Ytlcllbdalabciaa.Frm
namespace Go.Proofs.Ytlcllbdalabciaa.Frm
open Go.RowKit Go.Proofs.Ytlcllbdalabciaa.Num
set_option linter.unusedVariables false

theorem len_size (s : ByteArray) : s.data.toList.length = s.size := by rw [Array.length_toList]; rfl
theorem cut_mid {x y z : List UInt8} {p n : Nat} (hx : x.length = p) (hy : y.length = n) : ((x ++ y ++ z).drop p).take n = y := by
  subst hx hy
  rw [List.append_assoc, List.drop_left, List.take_left]
theorem gn_putVal {x n : Int} (h0 : 0 ≤ x) (h1 : 1 ≤ n) (h4 : n ≤ 4) (hx : x < 256 ^ n.toNat) : (gn (putVal x n) : Int) = x := by
  rw [putVal_ok ⟨h0, h1, h4⟩, gn_pb]
  obtain ⟨y, rfl⟩ := Int.eq_ofNat_of_zero_le h0
  rw [Int.toNat_natCast, Nat.mod_eq_of_lt]
  exact Int.ofNat_lt.1 (by simpa using hx)
/-- a number that stands in a text's bytes -/
theorem gnVal_mid {s : ByteArray} {x y z : List UInt8} {v : Int} {p n : Nat} (hs : s.data.toList = x ++ y ++ z) (hx : x.length = p) (hy : y = putVal v n) (hn1 : 1 ≤ n) (hn4 : n ≤ 4) (hv0 : 0 ≤ v) (hv1 : v < 256 ^ n) : gnVal s (p : Int) (n : Int) = v := by
  have hyl : y.length = n := by rw [hy, putVal_len hv0 (by omega) (by omega)]; omega
  have hsz : s.size = p + n + z.length := by rw [← len_size, hs, List.length_append, List.length_append, hx, hyl]
  rw [gnVal_ok (by unfold gnOk; omega)]
  unfold gcut
  rw [show ((p : Int)).toNat = p by omega, show ((n : Int)).toNat = n by omega, hs, cut_mid hx hyl, hy]
  exact gn_putVal hv0 (by omega) (by omega) (by simpa using hv1)
theorem ba_ext {a b : ByteArray} (h : a.data.toList = b.data.toList) : a = b := by
  apply ByteArray.ext
  exact Array.ext' h
/-- a right frame comes back from its bytes -/
theorem back {k d e s i : Int} {b S : ByteArray} (h : FOk k d e s i b.size) (hS : S.data.toList = frBytes k d e s i b.data.toList) :
    gcode S = 0 ∧ gK S = k ∧ gD S = d ∧ gE S = e ∧ gS S = s ∧ gI S = i ∧ gB S (S.size - 2) = b ∧ S.size = 11 + b.size := by
  have hlen := len_size b
  have hl := frBytes_len (b := b.data.toList) (by rw [hlen]; exact h)
  have hhl := head_len (b := b.data.toList) (by rw [hlen]; exact h)
  have hsz : S.size = 11 + b.size := by rw [← len_size, hS, hl, hlen]
  obtain ⟨h1, h2, h3, h4, h5, h6, h7, h8, h9, h10, h11⟩ := h.bounds
  have l1 : (putVal k 1).length = 1 := putVal_len h1 (by omega) (by omega)
  have l2 : (putVal d 1).length = 1 := putVal_len h3 (by omega) (by omega)
  have l3 : (putVal e 2).length = 2 := putVal_len h5 (by omega) (by omega)
  have l4 : (putVal s 2).length = 2 := putVal_len h7 (by omega) (by omega)
  have l5 : (putVal i 2).length = 2 := putVal_len h9 (by omega) (by omega)
  have l6 : (putVal (b.data.toList.length : Int) 1).length = 1 := putVal_len (by omega) (by omega) (by omega)
  obtain ⟨ck, hck⟩ : ∃ ck, ck = putVal (ckVal (head k d e s i b.data.toList)) 2 := ⟨_, rfl⟩
  have hfr : S.data.toList = head k d e s i b.data.toList ++ ck := by rw [hS, frBytes, hck]
  have g1 : gK S = k := gnVal_mid (x := []) (y := putVal k 1) (z := putVal d 1 ++ putVal e 2 ++ putVal s 2 ++ putVal i 2 ++ putVal (b.data.toList.length : Int) 1 ++ b.data.toList ++ ck) (p := 0) (n := 1) (by rw [hfr, head]; simp) rfl rfl (by omega) (by omega) h1 (by omega)
  have g2 : gD S = d := gnVal_mid (x := putVal k 1) (y := putVal d 1) (z := putVal e 2 ++ putVal s 2 ++ putVal i 2 ++ putVal (b.data.toList.length : Int) 1 ++ b.data.toList ++ ck) (p := 1) (n := 1) (by rw [hfr, head]; simp) l1 rfl (by omega) (by omega) h3 (by omega)
  have g3 : gE S = e := gnVal_mid (x := putVal k 1 ++ putVal d 1) (y := putVal e 2) (z := putVal s 2 ++ putVal i 2 ++ putVal (b.data.toList.length : Int) 1 ++ b.data.toList ++ ck) (p := 2) (n := 2) (by rw [hfr, head]; simp) (by rw [List.length_append, l1, l2]) rfl (by omega) (by omega) h5 (by omega)
  have g4 : gS S = s := gnVal_mid (x := putVal k 1 ++ putVal d 1 ++ putVal e 2) (y := putVal s 2) (z := putVal i 2 ++ putVal (b.data.toList.length : Int) 1 ++ b.data.toList ++ ck) (p := 4) (n := 2) (by rw [hfr, head]; simp) (by rw [List.length_append, List.length_append, l1, l2, l3]) rfl (by omega) (by omega) h7 (by omega)
  have g5 : gI S = i := gnVal_mid (x := putVal k 1 ++ putVal d 1 ++ putVal e 2 ++ putVal s 2) (y := putVal i 2) (z := putVal (b.data.toList.length : Int) 1 ++ b.data.toList ++ ck) (p := 6) (n := 2) (by rw [hfr, head]; simp) (by rw [List.length_append, List.length_append, List.length_append, l1, l2, l3, l4]) rfl (by omega) (by omega) h9 (by omega)
  have hck2 := ckVal_bd (head k d e s i b.data.toList)
  have lck : ck.length = 2 := by rw [hck]; exact putVal_len hck2.1 (by omega) (by omega)
  have hm : S.size = (9 + b.size) + 2 := by omega
  have g6 : gB S (9 + b.size) = b := by
    apply ba_ext
    unfold gB
    rw [ByteArray.data_extract, Array.toList_extract, List.extract_eq_take_drop, hfr, head]
    rw [List.append_assoc, List.drop_left' (by simp only [List.length_append]; omega), show 9 + b.size - 9 = b.data.toList.length by omega, List.take_left]
  have hsum : sumOk S (9 + b.size) := by
    unfold sumOk
    have htk : List.take (9 + b.size) S.data.toList = head k d e s i b.data.toList := by
      rw [hfr, List.take_left' (by omega)]
    rw [htk]
    exact gnVal_mid (x := head k d e s i b.data.toList) (y := ck) (z := []) (n := 2) (by rw [hfr]; simp) (by omega) hck (by omega) (by omega) hck2.1 (by omega)
  refine ⟨gcode_ok hm (by omega) hsum ?_, g1, g2, g3, g4, g5, ?_, hsz⟩
  · rw [gP, g1, g2, g3, g4, g5, g6, putF_yes (by rw [hlen]; exact h), hS]
  · rw [show S.size - 2 = 9 + b.size by omega, g6]
/-- bytes that can be read tell their length -/
theorem told_len {S : ByteArray} (h : gcode S = 0) : 11 ≤ S.size ∧ gnVal S 8 1 = (S.size : Int) - 11 ∧ FOk (gK S) (gD S) (gE S) (gS S) (gI S) (gB S (S.size - 2)).size ∧ S.data.toList = frBytes (gK S) (gD S) (gE S) (gS S) (gI S) (gB S (S.size - 2)).data.toList := by
  have h11 : ¬ S.size < 11 := fun hx => by rw [gcode_short hx] at h; omega
  obtain ⟨m, hm⟩ : ∃ m, S.size = m + 2 := ⟨S.size - 2, by omega⟩
  have hsum : sumOk S m := Decidable.byContradiction fun hx => by rw [gcode_sum hm h11 hx] at h; omega
  have hform : gP S m = S.data.toList := Decidable.byContradiction fun hx => by rw [gcode_form hm h11 hsum hx] at h; omega
  have hbl : (gB S m).size = m - 9 := ext_size S 9 m (by omega)
  have hlen := len_size (gB S m)
  have hok : FOk (gK S) (gD S) (gE S) (gS S) (gI S) (gB S m).size := by
    refine Decidable.byContradiction fun hx => ?_
    rw [gP, putF_no (by rw [hlen]; exact hx)] at hform
    have := len_size S
    rw [← hform] at this
    simp at this
    omega
  have hfr : S.data.toList = frBytes (gK S) (gD S) (gE S) (gS S) (gI S) (gB S m).data.toList := by
    rw [gP, putF_yes (by rw [hlen]; exact hok)] at hform
    exact hform.symm
  obtain ⟨h1, h2, h3, h4, h5, h6, h7, h8, h9, h10, h11'⟩ := hok.bounds
  rw [show S.size - 2 = m by omega]
  refine ⟨by omega, ?_, hok, hfr⟩
  have l1 : (putVal (gK S) 1).length = 1 := putVal_len h1 (by omega) (by omega)
  have l2 : (putVal (gD S) 1).length = 1 := putVal_len h3 (by omega) (by omega)
  have l3 : (putVal (gE S) 2).length = 2 := putVal_len h5 (by omega) (by omega)
  have l4 : (putVal (gS S) 2).length = 2 := putVal_len h7 (by omega) (by omega)
  have l5 : (putVal (gI S) 2).length = 2 := putVal_len h9 (by omega) (by omega)
  have := gnVal_mid (s := S) (x := putVal (gK S) 1 ++ putVal (gD S) 1 ++ putVal (gE S) 2 ++ putVal (gS S) 2 ++ putVal (gI S) 2) (y := putVal ((gB S m).data.toList.length : Int) 1) (z := (gB S m).data.toList ++ putVal (ckVal (head (gK S) (gD S) (gE S) (gS S) (gI S) (gB S m).data.toList)) 2) (p := 8) (n := 1) (v := ((gB S m).data.toList.length : Int))
    (by rw [hfr]; unfold frBytes; rw [head]; simp only [List.append_assoc]) (by simp only [List.length_append]; omega) rfl (by omega) (by omega) (by omega) (by omega)
  rw [show (8 : Int) = ((8 : Nat) : Int) by rfl, show (1 : Int) = ((1 : Nat) : Int) by rfl, this]
  omega
end Go.Proofs.Ytlcllbdalabciaa.Frm
