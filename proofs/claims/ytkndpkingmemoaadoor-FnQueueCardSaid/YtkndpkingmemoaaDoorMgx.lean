/-
  Small laws for the draws: what a cursor is, a row of bytes that came in, and a number cut to a byte.
  The walks of the draws: what each returns, as far as a law wants it, and that it writes nothing but its own cursor.
  The walks of the draws, second part: a new cursor, a number out of a list, a coin (for laws that draw no text).
  The walk of the laws' guard: is the code longer than 2^20 bytes?
-/
import Derived.Test.YtkndpkingmemoaaDoorMge
import Derived.Deep.QuietTactic
import Derived.BigQuiet
import Derived.Test.YtkndpkingmemoaaDoorProg
import Derived.WalkLawsBesides
namespace Go.Proofs.YtkndpkingmemoaaDoor.Kit
open Go.RowKit
set_option linter.unusedVariables false

/-- A row of integers that came in: nil, or 'cap' cells, the numbers zs. -/
def IsRow (k : IntKind) (w : World) (a : Option Addr) (len cap : Nat) (zs : List Int) : Prop :=
  (a = none ∧ len = 0 ∧ cap = 0 ∧ zs = []) ∨
  ∃ x, a = some x ∧ len ≤ cap ∧ cap ≤ maxLen ∧ zs.length = cap ∧ (∀ i, i < zs.length → w.cell? (x.add i) = some (.int k (zs.getD i 0))) ∧ ∀ n ∈ zs, (Lit.int k n).wf = true

/-- What a draw may know of the bytes that it is drawn from: each of the first len is a byte, and lies below block B. -/
structure CodeAt (B : Nat) (w : World) (a : Option Addr) (len cap : Nat) : Prop where
  le : len ≤ maxLen
  cell : ∀ i, i < len → ∃ b off, a = some ⟨b, off, none⟩ ∧ b < B ∧ ∃ x : Int, 0 ≤ x ∧ x < 256 ∧ w.cell? ⟨b, off + i, none⟩ = some (.int .u8 x)

theorem add_none (b off i : Nat) : (⟨b, off, none⟩ : Addr).add i = ⟨b, off + i, none⟩ := by
  unfold Addr.add
  split
  · rename_i h; subst h; rfl
  · rfl
theorem IsRow.code {w : World} {a : Option Addr} {len cap : Nat} {zs : List Int} (h : IsRow .u8 w a len cap zs) : CodeAt w.heap.size w a len cap := by
  rcases h with ⟨rfl, rfl, rfl, rfl⟩ | ⟨x, rfl, hl, hm, hz, hc, hw⟩
  · exact ⟨by unfold maxLen; omega, fun i hi => by omega⟩
  · refine ⟨by omega, fun i hi => ?_⟩
    obtain ⟨b, off, spot⟩ := x
    have hci := hc i (by omega)
    have hs : spot = none := World.cell?_spot (hc 0 (by omega))
    subst hs
    rw [add_none] at hci
    have hlt := World.block_lt_of_cell? w _ hci
    have hwi := hw (zs.getD i 0) (by rw [List.getD_eq_getElem?_getD, List.getElem?_eq_getElem (by omega)]; exact List.getElem_mem _)
    simp [Lit.wf, IntKind.min, IntKind.max, IntKind.signed, IntKind.bits] at hwi
    refine ⟨b, off, rfl, hlt, zs.getD i 0, by simp; omega, by simp; omega, hci⟩

/-- the code is where it was while only blocks from B on are written -/
theorem CodeAt.below {B : Nat} {w w' : World} {a : Option Addr} {len cap : Nat} (h : CodeAt B w a len cap) (hb : Below B w w') : CodeAt B w' a len cap :=
  ⟨h.le, fun i hi => by
    obtain ⟨b, off, e, hlt, x, h0, h1, hc⟩ := h.cell i hi
    exact ⟨b, off, e, hlt, x, h0, h1, (hb.cell (p := ⟨b, off + i, none⟩) hlt).trans hc⟩⟩

/-- A cursor: the block cb, of the draw's own. -/
def Cur (w : World) (cb : Nat) (T : TypeId) (a : Option Addr) (len cap : Nat) : Prop :=
  ∃ i h : Int, 0 ≤ i ∧ i ≤ len ∧ w.heap[cb]? = some (.cells #[.slice a len cap, .int .i64 i, .int .i64 h] T (0, 0))

theorem grown_refl (w : World) (r : Option Nat) : w.grownBy w r := ⟨rfl, rfl, rfl, Nat.le_refl _, fun _ _ _ => rfl⟩
theorem grown_trans {w w1 w2 : World} {r : Option Nat} (h : w.grownBy w1 r) (k : w1.grownBy w2 r) : w.grownBy w2 r :=
  ⟨k.os.trans h.os, k.tape.trans h.tape, k.output.trans h.output, Nat.le_trans h.size k.size, fun j hj hne => (k.block j (Nat.lt_of_lt_of_le hj h.size) hne).trans (h.block j hj hne)⟩
theorem grown_below {w w1 : World} {cb B : Nat} (h : w.grownBy w1 (some cb)) (hB : B ≤ cb) (hs : B ≤ w.heap.size) : Below B w w1 :=
  (Below.refl B w).grown h hs (fun k e => by cases e; exact hB)
theorem Cur.lt {w : World} {cb : Nat} {T : TypeId} {a : Option Addr} {len cap : Nat} (h : Cur w cb T a len cap) : cb < w.heap.size := by
  obtain ⟨i, g, _, _, hb⟩ := h
  exact lt_of_block hb
/-- A cursor in use: its block lies from B on, what it is drawn from below B. -/
structure Dr (B : Nat) (w : World) (cb : Nat) (T : TypeId) (a : Option Addr) (len cap : Nat) : Prop where
  cur : Cur w cb T a len cap
  code : CodeAt B w a len cap
  le : B ≤ cb
/-- The cursor and what else lies in the world, behind a draw. -/
structure Went (B : Nat) (w w' : World) (cb : Nat) (T : TypeId) (a : Option Addr) (len cap : Nat) : Prop where
  dr : Dr B w' cb T a len cap
  grown : w.grownBy w' (some cb)
theorem Went.mk' {B : Nat} {w w' : World} {cb : Nat} {T : TypeId} {a : Option Addr} {len cap : Nat} (h : Dr B w cb T a len cap) (hc : Cur w' cb T a len cap) (hg : w.grownBy w' (some cb)) : Went B w w' cb T a len cap :=
  ⟨⟨hc, h.code.below (grown_below hg h.le (Nat.le_of_lt (Nat.lt_of_le_of_lt h.le h.cur.lt))), h.le⟩, hg⟩
theorem Went.trans {B : Nat} {w w1 w2 : World} {cb : Nat} {T : TypeId} {a : Option Addr} {len cap : Nat} (h : Went B w w1 cb T a len cap) (k : Went B w1 w2 cb T a len cap) : Went B w w2 cb T a len cap :=
  ⟨k.dr, grown_trans h.grown k.grown⟩
theorem Dr.refl {B : Nat} {w : World} {cb : Nat} {T : TypeId} {a : Option Addr} {len cap : Nat} (h : Dr B w cb T a len cap) : Went B w w cb T a len cap := ⟨h, grown_refl _ _⟩
/-- a new block beside the cursor -/
theorem Went.alloc {B : Nat} {w w' : World} {cb : Nat} {T : TypeId} {a : Option Addr} {len cap : Nat} (h : Went B w w' cb T a len cap) (o : Obj) : Went B w (w'.alloc o) cb T a len cap := by
  have hlt := h.dr.cur.lt
  have hg : w'.grownBy (w'.alloc o) (some cb) := World.grownBy_alloc _ _ _
  obtain ⟨i, g, h0, h1, hb⟩ := h.dr.cur
  have hc : Cur (w'.alloc o) cb T a len cap := ⟨i, g, h0, h1, by rw [Below.heap_alloc _ _ _ hlt]; exact hb⟩
  exact h.trans (Went.mk' h.dr hc hg)
theorem Went.below {B : Nat} {w w' : World} {cb : Nat} {T : TypeId} {a : Option Addr} {len cap : Nat} (h : Went B w w' cb T a len cap) (hs : B ≤ w.heap.size) : Below B w w' := grown_below h.grown h.dr.le hs
end Go.Proofs.YtkndpkingmemoaaDoor.Kit
namespace Go.Proofs.YtkndpkingmemoaaDoor.Draw
open Go.RowKit Go.Proofs.YtkndpkingmemoaaDoor.Kit
set_option linter.unusedVariables false

end Go.Proofs.YtkndpkingmemoaaDoor.Draw
namespace Go.Proofs.YtkndpkingmemoaaDoor.Draw
open Go.RowKit Go.Proofs.YtkndpkingmemoaaDoor.Kit
set_option linter.unusedVariables false

theorem at_draw (w : World) (B : Nat) (a : Option Addr) (len cap : Nat) (hcode : CodeAt B w a len cap) (k : Nat) (hk : k ≤ 1000) :
    Calls Tryd.prog 8 #[.slice a len cap, .int .i64 k] w fun e w' => (∃ z : Int, 0 ≤ z ∧ z < 256 ∧ e = .returned (.int .i64 z)) ∧ w = w' := by
  have hlen := hcode.le
  unfold maxLen at hlen
  have HC := Lib.hid hcode
  clear hcode
  by_cases hlt : (k : Int) < (len : Int)
  · obtain ⟨b, off, rfl, hbB, y, hy0, hy1, hcy⟩ := HC.out.cell k (by omega)
    go_enter Tryd.func8, Tryd.ntmps8
    go_wp2
    go_ret
    exact ⟨⟨y, hy0, hy1, rfl⟩, rfl⟩
  · go_enter Tryd.func8, Tryd.ntmps8
    go_wp2
    go_ret
    exact ⟨⟨_, by omega, by omega, rfl⟩, rfl⟩
end Go.Proofs.YtkndpkingmemoaaDoor.Draw
namespace Go.Proofs.YtkndpkingmemoaaDoor.Draw
open Go.RowKit Go.Proofs.YtkndpkingmemoaaDoor.Kit
set_option linter.unusedVariables false

theorem big_yes (w : World) (a : Option Addr) (len cap : Nat) (hl : len ≤ maxLen) (h : (1048576 : Int) < (len : Int)) :
    Calls Tryd.prog 5 #[.slice a len cap] w fun e w' => e = .returned (.bool true) ∧ w = w' := by
  unfold maxLen at hl
  have hd : decide ((1048576 : Int) < (len : Int)) = true := by simp; omega
  go_enter Tryd.func5, Tryd.ntmps5
  go_wp2
  go_ret
  exact ⟨rfl, rfl⟩
theorem big_no (w : World) (a : Option Addr) (len cap : Nat) (hl : len ≤ maxLen) (h : (len : Int) ≤ 1048576) :
    Calls Tryd.prog 5 #[.slice a len cap] w fun e w' => e = .returned (.bool false) ∧ w = w' := by
  unfold maxLen at hl
  have hd : decide ((1048576 : Int) < (len : Int)) = false := by simp; omega
  go_enter Tryd.func5, Tryd.ntmps5
  go_wp2
  go_ret
  exact ⟨rfl, rfl⟩
end Go.Proofs.YtkndpkingmemoaaDoor.Draw
