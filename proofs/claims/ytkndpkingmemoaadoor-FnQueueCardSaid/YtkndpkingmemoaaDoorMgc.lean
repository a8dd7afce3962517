/-
  The walks of the laws' marks on ints, and of what holds two rows of ints, two links against each other.
  Rows of messages, of links and of ints: copied and compared.
  The walks of PolicyOk and Longest, of the program and of the specification, and of the laws FnExactPolicyOk and FnExactLongest.
  A config: when it is right, its box; the walks of ConfigOk, of the program and of the specification, and of the law FnExactConfigOk.
  Rows of messages and of links, and configs, compared with their like.
  A config that came in, copied; the walk of the law FnExactConfigOk.
  A gate: as it is read, its box; measured, copied, compared with its like.
-/
import Derived.Test.YtkndpkingmemoaaDoorMgb
import Derived.Test.YtkndpkingmemoaaDoorProg
import Derived.WalkKit
import Derived.WalkSpells
import Derived.WalkLawsBesides
import Derived.Lib.Hide
import Derived.Deep.QuietTactic
import Derived.BigQuiet
import Derived.Below
import Derived.IntWalk
namespace Go.Proofs.YtkndpkingmemoaaDoor.Lnk
open Go.RowKit
set_option linter.unusedVariables false

set_option maxRecDepth 100000 in
set_option maxHeartbeats 400000 in
theorem sameInts_yes (w : World) (B : Nat) (a1 a2 : Option Addr) (len c1 c2 : Nat) (l : List Int) (h1 : IIs B w a1 len l) (h2 : IIs B w a2 len l) (hlen : len ≤ 2000000) (hB : B ≤ w.heap.size) :
    Calls Tryd.prog 27 #[.slice a1 len c1, .slice a2 len c2] w fun e w' => e = .returned (.bool true) ∧ Below w.heap.size w w' := by
  have H1 := Lib.hid h1
  have H2 := Lib.hid h2
  have HL := Lib.hid h1.hlen
  clear h1 h2
  go_enter Tryd.func27, Tryd.ntmps27
  go_wp2
  go_loopw [5] (fun i wr => ∃ j : Nat, j ≤ len ∧ i = .int .i64 j ∧ Hid (Below w.heap.size w wr)) (fun i _ => len - (intOf i).toNat)
  case atStart => exact ⟨0, by omega, rfl, Lib.hid (Below.refl _ _)⟩
  case round =>
    obtain ⟨j, hj, rfl, HB⟩ := hrel
    by_cases hlt : (j : Int) < (len : Int)
    · have hjl : j < l.length := by have := HL.out; omega
      obtain ⟨b1, o1, rfl, hb1, c0⟩ := (H1.out.below (HB.out.mono hB)).cell j hjl
      obtain ⟨b2, o2, rfl, hb2, d0⟩ := (H2.out.below (HB.out.mono hB)).cell j hjl
      obtain ⟨z, hz⟩ : ∃ z, z = l[j] := ⟨_, rfl⟩
      rw [← hz] at c0 d0
      clear hz
      go_wp2_with fail
      go_quiet (fail)
      go_wp2_with fail
      go_roundw
      case rel => exact ⟨j + 1, by omega, by go_num, Lib.hid (below_drewN HB.out _)⟩
      case measure => simp [intOf]; omega
    · go_wp2
      go_ret
      exact ⟨rfl, HB.out⟩

set_option maxRecDepth 100000 in
set_option maxHeartbeats 400000 in
theorem sameLink_yes (w : World) (B : Nat) (a1 a2 : Option Addr) (len c1 c2 : Nat) (up : Bool) (ep sq : Int) (l : List Y) (h1 : YIs B w a1 len l) (h2 : YIs B w a2 len l) (hlen : len ≤ 2000000) (hB : B ≤ w.heap.size) :
    Calls Tryd.prog 25 #[.agg #[.bool up, .int .i64 ep, .int .i64 sq, .slice a1 len c1], .agg #[.bool up, .int .i64 ep, .int .i64 sq, .slice a2 len c2]] w fun e w' => e = .returned (.bool true) ∧ Below w.heap.size w w' := by
  have hb0 : Below w.heap.size w ((w.alloc (.cells #[.bool up, .int .i64 ep, .int .i64 sq, .slice a1 len c1] 44)).alloc (.cells #[.bool up, .int .i64 ep, .int .i64 sq, .slice a2 len c2] 44)) := ((Below.refl _ _).alloc (Nat.le_refl _) _).alloc (by simp) _
  have HX1 := Lib.hid ((B4.new w up ep sq (.slice a1 len c1) 44).below (bOne _ (.cells #[.bool up, .int .i64 ep, .int .i64 sq, .slice a2 len c2] 44)))
  have HX2 := Lib.hid (show B4 ((w.alloc (.cells #[.bool up, .int .i64 ep, .int .i64 sq, .slice a1 len c1] 44)).alloc (.cells #[.bool up, .int .i64 ep, .int .i64 sq, .slice a2 len c2] 44)) (w.heap.size + 1) up ep sq (.slice a2 len c2) by
    have := B4.new (w.alloc (.cells #[.bool up, .int .i64 ep, .int .i64 sq, .slice a1 len c1] 44)) up ep sq (.slice a2 len c2) 44
    simpa using this)
  have H1 := Lib.hid (h1.below (hb0.mono hB))
  have H2 := Lib.hid (h2.below (hb0.mono hB))
  have HB0 := Lib.hid hb0
  have HL := Lib.hid h1.hlen
  have hbb : (up != up) = false := by simp
  clear h1 h2 hb0
  go_enter Tryd.func25, Tryd.ntmps25
  go_wp2_with fail
  obtain ⟨W, hW⟩ : ∃ W, W = (w.alloc (.cells #[.bool up, .int .i64 ep, .int .i64 sq, .slice a1 len c1] 44)).alloc (.cells #[.bool up, .int .i64 ep, .int .i64 sq, .slice a2 len c2] 44) := ⟨_, rfl⟩
  rw [← hW] at HX1 HX2 H1 H2 HB0 ⊢
  have HBW := Lib.hid (show B ≤ W.heap.size by have := HB0.out.size; omega)
  clear hW
  go_loopw [5] (fun i wr => ∃ j : Nat, j ≤ len ∧ i = .int .i64 j ∧ Hid (Below W.heap.size W wr)) (fun i _ => len - (intOf i).toNat)
  case atStart => exact ⟨0, by omega, rfl, Lib.hid (Below.refl _ _)⟩
  case round =>
    obtain ⟨j, hj, rfl, HB⟩ := hrel
    obtain ⟨p0, p1, p2, p3, pl⟩ := HX1.out.below HB.out
    obtain ⟨q0, q1, q2, q3, ql⟩ := HX2.out.below HB.out
    by_cases hlt : (j : Int) < (len : Int)
    · have hjl : j < l.length := by have := HL.out; omega
      obtain ⟨b1, o1, rfl, hb1, c0, c1, c2⟩ := (H1.out.below (HB.out.mono HBW.out)).cell j hjl
      obtain ⟨b2, o2, rfl, hb2, d0, d1, d2⟩ := (H2.out.below (HB.out.mono HBW.out)).cell j hjl
      obtain ⟨z, hz⟩ : ∃ z, z = l[j].1 := ⟨_, rfl⟩
      obtain ⟨z', hz'⟩ : ∃ z, z = l[j].2.1 := ⟨_, rfl⟩
      obtain ⟨z2, hz2⟩ : ∃ z, z = l[j].2.2 := ⟨_, rfl⟩
      rw [← hz] at c0 d0
      rw [← hz'] at c1 d1
      rw [← hz2] at c2 d2
      clear hz hz' hz2
      go_wp2_with fail
      go_quiet (fail)
      go_wp2_with fail
      go_roundw
      case rel => exact ⟨j + 1, by omega, by go_num, Lib.hid (below_drewN HB.out _)⟩
      case measure => simp [intOf]; omega
    · go_wp2
      go_ret
      exact ⟨rfl, HB0.out.trans (HB.out.mono HB0.out.size)⟩
end Go.Proofs.YtkndpkingmemoaaDoor.Lnk
namespace Go.Proofs.YtkndpkingmemoaaDoor.Gat
open Go.RowKit
open Lnk (bOne bAfter IOwn IIs below_keep below_drew')
set_option linter.unusedVariables false

theorem infoEvent : (Tryd.prog.info? 55).map (fun i => (i.zero, i.size, i.bytes)) = some (some (.agg #[.int .i64 0, .int .i64 0, .int .i64 0, .string ByteArray.empty, .int .i64 0, .int .i64 0, .int .i64 0, .int .i64 0, .int .i64 0]), 9, 80) := by kernel_rfl
theorem infoLink : (Tryd.prog.info? 44).map (fun i => (i.zero, i.size, i.bytes)) = some (some (.agg #[.bool false, .int .i64 0, .int .i64 0, .slice none 0 0]), 4, 48) := by kernel_rfl
theorem infoInt' : (Tryd.prog.info? 3).map (fun i => (i.zero, i.size, i.bytes)) = some (some (.int .i64 0), 1, 8) := by kernel_rfl

/-- a slice of structs that was handed back: new, and of the call's own -/
def RowEnd {α : Type} (S : Shp α) (E : TypeId) (w w' : World) (l : List α) (e : Ending) : Prop :=
  (∃ a cap, e = .returned (.slice a l.length cap) ∧ ROwn S w.heap.size w' E (.slice a l.length cap) l) ∧ Below w.heap.size w w'
/-- the same of ints -/
def IntEnd (w w' : World) (l : List Int) (e : Ending) : Prop :=
  (∃ a cap, e = .returned (.slice a l.length cap) ∧ IOwn w.heap.size w' (.slice a l.length cap) l) ∧ Below w.heap.size w w'
theorem eown_at {B : Nat} {w : World} {E : TypeId} {g n' cap : Nat} {l : List Ev} (h : ROwn evS B w E (.slice (some ⟨g, 0, none⟩) n' cap) l) (k : Nat) (hk : k < l.length) :
    (∃ i d c bd at_ t r n s, C9 w g (k * 9) i d c bd at_ t r n s) ∧ w.frozen? ⟨g, k * 9, none⟩ = false ∧ w.frozen? ⟨g, k * 9 + 1, none⟩ = false ∧ w.frozen? ⟨g, k * 9 + 2, none⟩ = false ∧ w.frozen? ⟨g, k * 9 + 3, none⟩ = false ∧ w.frozen? ⟨g, k * 9 + 4, none⟩ = false ∧ w.frozen? ⟨g, k * 9 + 5, none⟩ = false ∧ w.frozen? ⟨g, k * 9 + 6, none⟩ = false ∧ w.frozen? ⟨g, k * 9 + 7, none⟩ = false ∧ w.frozen? ⟨g, k * 9 + 8, none⟩ = false := by
  refine ⟨?_, h.frozenAt _, h.frozenAt _, h.frozenAt _, h.frozenAt _, h.frozenAt _, h.frozenAt _, h.frozenAt _, h.frozenAt _, h.frozenAt _⟩
  cases hl : l[k] with
  | mk i d c bd at_ t r n s =>
    refine ⟨i, d, c, bd, at_, t, r, n, s, ?_, ?_, ?_, ?_, ?_, ?_, ?_, ?_, ?_⟩
    all_goals
      first
        | exact h.cellAt k hk 0 _ (by rw [hl]; rfl)
        | exact h.cellAt k hk 1 _ (by rw [hl]; rfl)
        | exact h.cellAt k hk 2 _ (by rw [hl]; rfl)
        | exact h.cellAt k hk 3 _ (by rw [hl]; rfl)
        | exact h.cellAt k hk 4 _ (by rw [hl]; rfl)
        | exact h.cellAt k hk 5 _ (by rw [hl]; rfl)
        | exact h.cellAt k hk 6 _ (by rw [hl]; rfl)
        | exact h.cellAt k hk 7 _ (by rw [hl]; rfl)
        | exact h.cellAt k hk 8 _ (by rw [hl]; rfl)
theorem lown_at {B : Nat} {w : World} {E : TypeId} {g n' cap : Nat} {l : List Lr} (h : ROwn lrS B w E (.slice (some ⟨g, 0, none⟩) n' cap) l) (k : Nat) (hk : k < l.length) :
    (∃ up ep sq v, l[k] = ⟨up, ep, sq, v⟩ ∧ C4 w g (k * 4) up ep sq v) ∧ w.frozen? ⟨g, k * 4, none⟩ = false ∧ w.frozen? ⟨g, k * 4 + 1, none⟩ = false ∧ w.frozen? ⟨g, k * 4 + 2, none⟩ = false ∧ w.frozen? ⟨g, k * 4 + 3, none⟩ = false := by
  refine ⟨?_, h.frozenAt _, h.frozenAt _, h.frozenAt _, h.frozenAt _⟩
  cases hl : l[k] with
  | mk up ep sq v => exact ⟨up, ep, sq, v, rfl, h.cellAt k hk 0 _ (by rw [hl]; rfl), h.cellAt k hk 1 _ (by rw [hl]; rfl), h.cellAt k hk 2 _ (by rw [hl]; rfl), h.cellAt k hk 3 _ (by rw [hl]; rfl)⟩

theorem eown_set {B : Nat} {w : World} {E : TypeId} {g cap n' : Nat} {l : List Ev} (h : ROwn evS B w E (.slice (some ⟨g, 0, none⟩) n' cap) l) (k : Nat) (hk : k < l.length) (x : Ev) (i d c : Int) (bd : ByteArray) (at_ t r n s : Int) (hx : x = ⟨i, d, c, bd, at_, t, r, n, s⟩) :
    ROwn evS B (((((((((w.setCell ⟨g, k * 9, none⟩ (.int .i64 i)).setCell ⟨g, k * 9 + 1, none⟩ (.int .i64 d)).setCell ⟨g, k * 9 + 2, none⟩ (.int .i64 c)).setCell ⟨g, k * 9 + 3, none⟩ (.string bd)).setCell ⟨g, k * 9 + 4, none⟩ (.int .i64 at_)).setCell ⟨g, k * 9 + 5, none⟩ (.int .i64 t)).setCell ⟨g, k * 9 + 6, none⟩ (.int .i64 r)).setCell ⟨g, k * 9 + 7, none⟩ (.int .i64 n)).setCell ⟨g, k * 9 + 8, none⟩ (.int .i64 s)) E (.slice (some ⟨g, 0, none⟩) n' cap) (l.set k x) ∧ w.grownBy (((((((((w.setCell ⟨g, k * 9, none⟩ (.int .i64 i)).setCell ⟨g, k * 9 + 1, none⟩ (.int .i64 d)).setCell ⟨g, k * 9 + 2, none⟩ (.int .i64 c)).setCell ⟨g, k * 9 + 3, none⟩ (.string bd)).setCell ⟨g, k * 9 + 4, none⟩ (.int .i64 at_)).setCell ⟨g, k * 9 + 5, none⟩ (.int .i64 t)).setCell ⟨g, k * 9 + 6, none⟩ (.int .i64 r)).setCell ⟨g, k * 9 + 7, none⟩ (.int .i64 n)).setCell ⟨g, k * 9 + 8, none⟩ (.int .i64 s)) (some g) := by
  subst hx
  exact h.set k hk ⟨i, d, c, bd, at_, t, r, n, s⟩
theorem lown_set {B : Nat} {w : World} {E : TypeId} {g cap n' : Nat} {l : List Lr} (h : ROwn lrS B w E (.slice (some ⟨g, 0, none⟩) n' cap) l) (k : Nat) (hk : k < l.length) (up : Bool) (ep sq : Int) (v : Value) :
    ROwn lrS B ((((w.setCell ⟨g, k * 4, none⟩ (.bool up)).setCell ⟨g, k * 4 + 1, none⟩ (.int .i64 ep)).setCell ⟨g, k * 4 + 2, none⟩ (.int .i64 sq)).setCell ⟨g, k * 4 + 3, none⟩ v) E (.slice (some ⟨g, 0, none⟩) n' cap) (l.set k ⟨up, ep, sq, v⟩) ∧ w.grownBy ((((w.setCell ⟨g, k * 4, none⟩ (.bool up)).setCell ⟨g, k * 4 + 1, none⟩ (.int .i64 ep)).setCell ⟨g, k * 4 + 2, none⟩ (.int .i64 sq)).setCell ⟨g, k * 4 + 3, none⟩ v) (some g) :=
  h.set k hk ⟨up, ep, sq, v⟩

theorem yis_grown {w w' : World} {g : Nat} {a : Option Addr} {n : Nat} {l : List Lnk.Y} (h : Lnk.YIs w.heap.size w a n l) (hg : w.grownBy w' (some g)) (hne : ∀ b, a.map (·.block) = some b → b ≠ g) : Lnk.YIs w'.heap.size w' a n l :=
  ⟨h.hlen, h.le, fun k hk => by
    obtain ⟨b, off, e, hlt, h0, h1, h2⟩ := h.cell k hk
    have hb := hne b (by rw [e]; rfl)
    have hb' : some b ≠ some g := fun e => hb (by injection e)
    exact ⟨b, off, e, Nat.lt_of_lt_of_le hlt hg.size, hg.cell (a := ⟨b, off + k * 3, none⟩) h0 hb', hg.cell (a := ⟨b, off + k * 3 + 1, none⟩) h1 hb', hg.cell (a := ⟨b, off + k * 3 + 2, none⟩) h2 hb'⟩⟩
theorem own_map {a : Option Addr} {n c : Nat} : (Value.slice a n c).ownBlock = a.map (·.block) := by cases a <;> rfl
theorem LrIs.grown {w w' : World} {g : Nat} {r : Lr} {k : Lk} (h : LrIs w.heap.size w r k) (hg : w.grownBy w' (some g)) (hne : ∀ q, r.v.ownBlock = some q → q ≠ g) : LrIs w'.heap.size w' r k := by
  obtain ⟨h1, h2, h3, a, len, cap, h4, h5⟩ := h
  exact ⟨h1, h2, h3, a, len, cap, h4, yis_grown h5 hg (fun b hb => hne b (by rw [h4, own_map, hb]))⟩
/-- a row of links under way, in block g: the first j of them are done -/
structure LGo (B g : Nat) (w : World) (v : Value) (raw : List Lr) (l : List Lk) (j : Nat) : Prop where
  own : ROwn lrS B w 44 v raw
  len : raw.length = l.length
  done : ∀ k (h : k < raw.length) (h' : k < l.length), k < j → LrIs w.heap.size w raw[k] l[k] ∧ ∀ q, raw[k].v.ownBlock = some q → g < q
theorem LGo.start {B g : Nat} {w : World} {v : Value} {l : List Lk} (h : ROwn lrS B w 44 v (List.replicate l.length lr0)) : LGo B g w v (List.replicate l.length lr0) l 0 :=
  ⟨h, by simp, fun k _ _ h => by omega⟩
theorem LGo.below {B g : Nat} {w w' : World} {v : Value} {raw : List Lr} {l : List Lk} {j : Nat} (h : LGo B g w v raw l j) (hb : Below w.heap.size w w') : LGo B g w' v raw l j :=
  ⟨h.own.below hb, h.len, fun k hk hk' hj => ⟨((h.done k hk hk' hj).1.below hb).mono hb.size, (h.done k hk hk' hj).2⟩⟩
theorem LGo.step {B g : Nat} {w w' : World} {n cap : Nat} {raw : List Lr} {l : List Lk} {j : Nat} {up : Bool} {ep sq : Int} {y : List Lnk.Y} {a : Option Addr} {yn yc : Nat} (h : LGo B g w (.slice (some ⟨g, 0, none⟩) n cap) raw l j) (hj : j < l.length) (hl : l[j] = ⟨up, ep, sq, y⟩)
    (hy : Lnk.YIs w.heap.size w a yn y) (hi : ∀ q, (Value.slice a yn yc).ownBlock = some q → g < q)
    (ho : ROwn lrS B w' 44 (.slice (some ⟨g, 0, none⟩) n cap) (raw.set j ⟨up, ep, sq, .slice a yn yc⟩)) (hg : w.grownBy w' (some g)) : LGo B g w' (.slice (some ⟨g, 0, none⟩) n cap) (raw.set j ⟨up, ep, sq, .slice a yn yc⟩) l (j + 1) := by
  refine ⟨ho, by rw [List.length_set]; exact h.len, fun k hk hk' hkj => ?_⟩
  rw [List.length_set] at hk
  by_cases e : k = j
  · subst e
    rw [List.getElem_set_self, hl]
    exact ⟨LrIs.grown ⟨rfl, rfl, rfl, a, yn, yc, rfl, hy⟩ hg (fun q hq => by have := hi q hq; omega), hi⟩
  · rw [List.getElem_set_ne (by omega)]
    have h1 := h.done k hk hk' (by omega)
    exact ⟨h1.1.grown hg (fun q hq => by have := h1.2 q hq; omega), h1.2⟩
theorem yis_agree {w w' : World} {a : Option Addr} {n : Nat} {l : List Lnk.Y} (h : Lnk.YIs w.heap.size w a n l) (hs : w.heap.size ≤ w'.heap.size) (hh : ∀ b, a.map (·.block) = some b → b < w.heap.size → w'.heap[b]? = w.heap[b]?) : Lnk.YIs w'.heap.size w' a n l :=
  ⟨h.hlen, h.le, fun k hk => by
    obtain ⟨b, off, e, hlt, h0, h1, h2⟩ := h.cell k hk
    have hb := hh b (by rw [e]; rfl) hlt
    exact ⟨b, off, e, Nat.lt_of_lt_of_le hlt hs, (World.cell?_of_block (a := ⟨b, off + k * 3, none⟩) hb).trans h0, (World.cell?_of_block (a := ⟨b, off + k * 3 + 1, none⟩) hb).trans h1, (World.cell?_of_block (a := ⟨b, off + k * 3 + 2, none⟩) hb).trans h2⟩⟩
theorem LGo.end_ {B g : Nat} {w : World} {n cap : Nat} {a : Option Addr} {raw : List Lr} {l : List Lk} (hBg : B ≤ g) (h : LGo B g w (.slice a n cap) raw l l.length) : n = l.length ∧ Fresh B w (fun w => LIs w.heap.size w a n l) := by
  have h1 := h.own.is
  refine ⟨h1.1.trans h.len, fun w' hs hh => ⟨raw, (h.own.fresh w' hs hh).isN, h.len, fun k hk hk' => ?_⟩⟩
  obtain ⟨⟨e1, e2, e3, a, len, cap, e4, hy⟩, hq⟩ := h.done k hk hk' hk'
  exact ⟨e1, e2, e3, a, len, cap, e4, yis_agree hy hs (fun b hb hlt => hh b (by have := hq b (by rw [e4, own_map, hb]); omega) hlt)⟩

end Go.Proofs.YtkndpkingmemoaaDoor.Gat
namespace Go.Proofs.YtkndpkingmemoaaDoor.Pol
open Go.RowKit
set_option linter.unusedVariables false

/-- a right policy -/
def PolOk (b c j t : Int) : Prop := 1 ≤ b ∧ b ≤ c ∧ c ≤ 100000 ∧ 0 ≤ j ∧ j ≤ 1000 ∧ 1 ≤ t ∧ t ≤ 1000000
instance (b c j t : Int) : Decidable (PolOk b c j t) := by unfold PolOk; infer_instance
def polB (b c j t : Int) : Bool := decide (PolOk b c j t)
/-- the value of a policy -/
def pv (b c j t : Int) : Value := .agg #[.int .i64 b, .int .i64 c, .int .i64 j, .int .i64 t]

theorem bool_iff {p q : Prop} [Decidable p] [Decidable q] (h : p ↔ q) : Ending.returned (.bool (decide p)) = Ending.returned (.bool (decide q)) := by rw [decide_eq_decide.2 h]
theorem bool_no {p : Prop} [Decidable p] (h : ¬ p) : Ending.returned (.bool false) = Ending.returned (.bool (decide p)) := by rw [decide_eq_false h]

theorem in_any (x a b : Int) (w : World) :
    Calls Tryd.prog 50 #[.int .i64 x, .int .i64 a, .int .i64 b] w fun e w' => e = .returned (.bool (decide (a ≤ x ∧ x ≤ b))) ∧ w = w' := by
  go_enter Tryd.func50, Tryd.ntmps50
  go_wp2
  all_goals
    go_ret
    refine ⟨?_, rfl⟩
    first
      | exact bool_iff (by omega)
      | exact bool_no (by omega)
      | (simp; intro; omega)

theorem implOk_any (b c j t : Int) (w : World) :
    Calls Tryd.prog 41 #[.agg #[.int .i64 b, .int .i64 c, .int .i64 j, .int .i64 t]] w fun e w' => e = .returned (.bool (polB b c j t)) ∧ Below w.heap.size w w' := by
  go_enter Tryd.func41, Tryd.ntmps41
  go_wp2
  all_goals
    go_ret
    refine ⟨?_, (Below.refl _ _).alloc (Nat.le_refl _) _⟩
    unfold polB
    first
      | exact bool_iff (by unfold PolOk; omega)
      | exact bool_no (by unfold PolOk; omega)

theorem specOk_any (b c j t : Int) (w : World) :
    Calls Tryd.prog 74 #[.agg #[.int .i64 b, .int .i64 c, .int .i64 j, .int .i64 t]] w fun e w' => e = .returned (.bool (polB b c j t)) ∧ Below w.heap.size w w' := by
  go_enter Tryd.func74, Tryd.ntmps74
  go_wp2
  all_goals
    go_ret
    refine ⟨?_, (Below.refl _ _).alloc (Nat.le_refl _) _⟩
    unfold polB
    first
      | exact bool_iff (by unfold PolOk; omega)
      | exact bool_no (by unfold PolOk; omega)

/-- a policy's box -/
structure B4 (w : World) (k : Nat) (b c j t : Int) : Prop where
  c0 : w.cell? ⟨k, 0, none⟩ = some (.int .i64 b)
  c1 : w.cell? ⟨k, 1, none⟩ = some (.int .i64 c)
  c2 : w.cell? ⟨k, 2, none⟩ = some (.int .i64 j)
  c3 : w.cell? ⟨k, 3, none⟩ = some (.int .i64 t)
  lt : k < w.heap.size
theorem B4.new (w : World) (b c j t : Int) (ty : TypeId) : B4 (w.alloc (.cells #[.int .i64 b, .int .i64 c, .int .i64 j, .int .i64 t] ty)) w.heap.size b c j t :=
  ⟨cell_of_row _ _ 0 _ ty (0, 0) (heap_alloc_new w _), cell_of_row _ _ 1 _ ty (0, 0) (heap_alloc_new w _), cell_of_row _ _ 2 _ ty (0, 0) (heap_alloc_new w _), cell_of_row _ _ 3 _ ty (0, 0) (heap_alloc_new w _), by simp⟩
theorem B4.below {w w' : World} {k : Nat} {b c j t : Int} (h : B4 w k b c j t) (hb : Below w.heap.size w w') : B4 w' k b c j t :=
  ⟨(hb.cell (p := ⟨k, 0, none⟩) h.lt).trans h.c0, (hb.cell (p := ⟨k, 1, none⟩) h.lt).trans h.c1, (hb.cell (p := ⟨k, 2, none⟩) h.lt).trans h.c2, (hb.cell (p := ⟨k, 3, none⟩) h.lt).trans h.c3, Nat.lt_of_lt_of_le h.lt hb.size⟩
theorem bOne (w : World) (o : Obj) : Below w.heap.size w (w.alloc o) := (Below.refl _ _).alloc (Nat.le_refl _) _
theorem bAfter {B : Nat} {a w w' : World} (h : Below B a w) (h2 : Below w.heap.size w w') (hB : B ≤ w.heap.size) : Below B a w' := h.trans (h2.mono hB)
end Go.Proofs.YtkndpkingmemoaaDoor.Pol
namespace Go.Proofs.YtkndpkingmemoaaDoor.Gat
open Go.RowKit
set_option linter.unusedVariables false
open Pol (bool_iff bool_no bOne bAfter PolOk polB)
def CfgOk (de qu wi ti qa bu le b c j t : Int) : Prop := 1 ≤ de ∧ de ≤ 6 ∧ 1 ≤ qu ∧ qu ≤ 10 ∧ 1 ≤ wi ∧ wi ≤ 8 ∧ 1 ≤ ti ∧ ti ≤ 1000 ∧ 1 ≤ qa ∧ qa ≤ 20 ∧ 1 ≤ bu ∧ bu ≤ de ∧ 1 ≤ le ∧ le ≤ 20 ∧ PolOk b c j t
instance (de qu wi ti qa bu le b c j t : Int) : Decidable (CfgOk de qu wi ti qa bu le b c j t) := by unfold CfgOk; infer_instance
def cfgB (de qu wi ti qa bu le b c j t : Int) : Bool := decide (CfgOk de qu wi ti qa bu le b c j t)
def inB (lo hi x : Int) : Bool := decide (lo ≤ x ∧ x ≤ hi)
theorem inB_yes {lo hi x : Int} (h : inB lo hi x = true) : lo ≤ x ∧ x ≤ hi := of_decide_eq_true h
theorem inB_no {lo hi x : Int} (h : inB lo hi x = false) : ¬ (lo ≤ x ∧ x ≤ hi) := of_decide_eq_false h
theorem cfgB_no {de qu wi ti qa bu le b c j t : Int} (h : ¬ CfgOk de qu wi ti qa bu le b c j t) : cfgB de qu wi ti qa bu le b c j t = false := decide_eq_false h
theorem cfgB_yes {de qu wi ti qa bu le b c j t : Int} (h : CfgOk de qu wi ti qa bu le b c j t) : cfgB de qu wi ti qa bu le b c j t = true := decide_eq_true h
/-- a config's box -/
structure B11 (w : World) (k : Nat) (de qu wi ti qa bu le b c j t : Int) : Prop where
  c0 : w.cell? ⟨k, 0, none⟩ = some (.int .i64 de)
  c1 : w.cell? ⟨k, 1, none⟩ = some (.int .i64 qu)
  c2 : w.cell? ⟨k, 2, none⟩ = some (.int .i64 wi)
  c3 : w.cell? ⟨k, 3, none⟩ = some (.int .i64 ti)
  c4 : w.cell? ⟨k, 4, none⟩ = some (.int .i64 qa)
  c5 : w.cell? ⟨k, 5, none⟩ = some (.int .i64 bu)
  c6 : w.cell? ⟨k, 6, none⟩ = some (.int .i64 le)
  c7 : w.cell? ⟨k, 7, none⟩ = some (.int .i64 b)
  c8 : w.cell? ⟨k, 8, none⟩ = some (.int .i64 c)
  c9 : w.cell? ⟨k, 9, none⟩ = some (.int .i64 j)
  c10 : w.cell? ⟨k, 10, none⟩ = some (.int .i64 t)
  lt : k < w.heap.size
theorem B11.new (w : World) (de qu wi ti qa bu le b c j t : Int) (ty : TypeId) : B11 (w.alloc (.cells #[.int .i64 de, .int .i64 qu, .int .i64 wi, .int .i64 ti, .int .i64 qa, .int .i64 bu, .int .i64 le, .int .i64 b, .int .i64 c, .int .i64 j, .int .i64 t] ty)) w.heap.size de qu wi ti qa bu le b c j t :=
  ⟨cell_of_row _ _ 0 _ ty (0, 0) (heap_alloc_new w _), cell_of_row _ _ 1 _ ty (0, 0) (heap_alloc_new w _), cell_of_row _ _ 2 _ ty (0, 0) (heap_alloc_new w _), cell_of_row _ _ 3 _ ty (0, 0) (heap_alloc_new w _), cell_of_row _ _ 4 _ ty (0, 0) (heap_alloc_new w _), cell_of_row _ _ 5 _ ty (0, 0) (heap_alloc_new w _), cell_of_row _ _ 6 _ ty (0, 0) (heap_alloc_new w _), cell_of_row _ _ 7 _ ty (0, 0) (heap_alloc_new w _), cell_of_row _ _ 8 _ ty (0, 0) (heap_alloc_new w _), cell_of_row _ _ 9 _ ty (0, 0) (heap_alloc_new w _), cell_of_row _ _ 10 _ ty (0, 0) (heap_alloc_new w _), by simp⟩
theorem B11.below {w w' : World} {k : Nat} {de qu wi ti qa bu le b c j t : Int} (h : B11 w k de qu wi ti qa bu le b c j t) (hb : Below w.heap.size w w') : B11 w' k de qu wi ti qa bu le b c j t :=
  ⟨(hb.cell (p := ⟨k, 0, none⟩) h.lt).trans h.c0, (hb.cell (p := ⟨k, 1, none⟩) h.lt).trans h.c1, (hb.cell (p := ⟨k, 2, none⟩) h.lt).trans h.c2, (hb.cell (p := ⟨k, 3, none⟩) h.lt).trans h.c3, (hb.cell (p := ⟨k, 4, none⟩) h.lt).trans h.c4, (hb.cell (p := ⟨k, 5, none⟩) h.lt).trans h.c5, (hb.cell (p := ⟨k, 6, none⟩) h.lt).trans h.c6, (hb.cell (p := ⟨k, 7, none⟩) h.lt).trans h.c7, (hb.cell (p := ⟨k, 8, none⟩) h.lt).trans h.c8, (hb.cell (p := ⟨k, 9, none⟩) h.lt).trans h.c9, (hb.cell (p := ⟨k, 10, none⟩) h.lt).trans h.c10, Nat.lt_of_lt_of_le h.lt hb.size⟩

theorem in_any (x lo hi : Int) (w : World) :
    Calls Tryd.prog 50 #[.int .i64 x, .int .i64 lo, .int .i64 hi] w fun e w' => e = .returned (.bool (inB lo hi x)) ∧ w = w' := by
  go_enter Tryd.func50, Tryd.ntmps50
  go_wp2
  all_goals
    go_ret
    refine ⟨?_, rfl⟩
    unfold inB
    first
      | exact bool_iff (by omega)
      | exact bool_no (by omega)

set_option maxRecDepth 100000 in
set_option maxHeartbeats 2000000 in
theorem implCfg_any (de qu wi ti qa bu le b c j t : Int) (w : World) :
    Calls Tryd.prog 18 #[.agg #[.int .i64 de, .int .i64 qu, .int .i64 wi, .int .i64 ti, .int .i64 qa, .int .i64 bu, .int .i64 le, .int .i64 b, .int .i64 c, .int .i64 j, .int .i64 t]] w fun e w' => e = .returned (.bool (cfgB de qu wi ti qa bu le b c j t)) ∧ Below w.heap.size w w' := by
  have HB := Lib.hid (B11.new w de qu wi ti qa bu le b c j t 27)
  go_enter Tryd.func18, Tryd.ntmps18
  go_wp2_with fail
  · refine (Pol.implOk_any b c j t _).mono ?_
    rintro e w1 ⟨rfl, hb1⟩
    have HL := Lib.hid (bAfter (bOne w _) hb1 (by simp))
    clear hb1
    obtain ⟨x, hx⟩ : ∃ x, x = polB b c j t := ⟨_, rfl⟩
    rw [← hx]
    have HX := Lib.hid hx
    clear hx
    go_wp2_with fail
    go_ret
    refine ⟨?_, HL.out⟩
    rw [HX.out]
    exact bool_iff (by unfold CfgOk PolOk; omega)
  all_goals
    go_ret
    refine ⟨?_, bOne _ _⟩
    unfold cfgB
    first
      | exact bool_iff (by unfold CfgOk PolOk; omega)
      | exact bool_no (by unfold CfgOk PolOk; omega)

set_option maxRecDepth 100000 in
set_option maxHeartbeats 2000000 in
theorem specCfg_any (de qu wi ti qa bu le b c j t : Int) (w : World) :
    Calls Tryd.prog 64 #[.agg #[.int .i64 de, .int .i64 qu, .int .i64 wi, .int .i64 ti, .int .i64 qa, .int .i64 bu, .int .i64 le, .int .i64 b, .int .i64 c, .int .i64 j, .int .i64 t]] w fun e w' => e = .returned (.bool (cfgB de qu wi ti qa bu le b c j t)) ∧ Below w.heap.size w w' := by
  have HB := Lib.hid (B11.new w de qu wi ti qa bu le b c j t 27)
  go_enter Tryd.func64, Tryd.ntmps64
  go_wp2_with fail
  refine (in_any de 1 6 _).mono ?_
  rintro e w0 ⟨rfl, rfl⟩
  cases h0 : inB 1 6 de
  · have HN := Lib.hid (cfgB_no (de := de) (qu := qu) (wi := wi) (ti := ti) (qa := qa) (bu := bu) (le := le) (b := b) (c := c) (j := j) (t := t) (fun h => inB_no h0 (by unfold CfgOk at h; omega)))
    clear h0
    go_wp2_with fail
    go_ret
    exact ⟨by rw [HN.out]; rfl, bOne _ _⟩
  have H0 := Lib.hid (inB_yes h0)
  clear h0
  go_wp2_with fail
  refine (in_any qu 1 10 _).mono ?_
  rintro e w1 ⟨rfl, rfl⟩
  cases h1 : inB 1 10 qu
  · have HN := Lib.hid (cfgB_no (de := de) (qu := qu) (wi := wi) (ti := ti) (qa := qa) (bu := bu) (le := le) (b := b) (c := c) (j := j) (t := t) (fun h => inB_no h1 (by unfold CfgOk at h; omega)))
    clear h1
    go_wp2_with fail
    go_ret
    exact ⟨by rw [HN.out]; rfl, bOne _ _⟩
  have H1 := Lib.hid (inB_yes h1)
  clear h1
  go_wp2_with fail
  refine (in_any wi 1 8 _).mono ?_
  rintro e w2 ⟨rfl, rfl⟩
  cases h2 : inB 1 8 wi
  · have HN := Lib.hid (cfgB_no (de := de) (qu := qu) (wi := wi) (ti := ti) (qa := qa) (bu := bu) (le := le) (b := b) (c := c) (j := j) (t := t) (fun h => inB_no h2 (by unfold CfgOk at h; omega)))
    clear h2
    go_wp2_with fail
    go_ret
    exact ⟨by rw [HN.out]; rfl, bOne _ _⟩
  have H2 := Lib.hid (inB_yes h2)
  clear h2
  go_wp2_with fail
  refine (in_any ti 1 1000 _).mono ?_
  rintro e w3 ⟨rfl, rfl⟩
  cases h3 : inB 1 1000 ti
  · have HN := Lib.hid (cfgB_no (de := de) (qu := qu) (wi := wi) (ti := ti) (qa := qa) (bu := bu) (le := le) (b := b) (c := c) (j := j) (t := t) (fun h => inB_no h3 (by unfold CfgOk at h; omega)))
    clear h3
    go_wp2_with fail
    go_ret
    exact ⟨by rw [HN.out]; rfl, bOne _ _⟩
  have H3 := Lib.hid (inB_yes h3)
  clear h3
  go_wp2_with fail
  refine (in_any qa 1 20 _).mono ?_
  rintro e w4 ⟨rfl, rfl⟩
  cases h4 : inB 1 20 qa
  · have HN := Lib.hid (cfgB_no (de := de) (qu := qu) (wi := wi) (ti := ti) (qa := qa) (bu := bu) (le := le) (b := b) (c := c) (j := j) (t := t) (fun h => inB_no h4 (by unfold CfgOk at h; omega)))
    clear h4
    go_wp2_with fail
    go_ret
    exact ⟨by rw [HN.out]; rfl, bOne _ _⟩
  have H4 := Lib.hid (inB_yes h4)
  clear h4
  go_wp2_with fail
  refine (in_any bu 1 de _).mono ?_
  rintro e w5 ⟨rfl, rfl⟩
  cases h5 : inB 1 de bu
  · have HN := Lib.hid (cfgB_no (de := de) (qu := qu) (wi := wi) (ti := ti) (qa := qa) (bu := bu) (le := le) (b := b) (c := c) (j := j) (t := t) (fun h => inB_no h5 (by unfold CfgOk at h; omega)))
    clear h5
    go_wp2_with fail
    go_ret
    exact ⟨by rw [HN.out]; rfl, bOne _ _⟩
  have H5 := Lib.hid (inB_yes h5)
  clear h5
  go_wp2_with fail
  refine (in_any le 1 20 _).mono ?_
  rintro e w6 ⟨rfl, rfl⟩
  cases h6 : inB 1 20 le
  · have HN := Lib.hid (cfgB_no (de := de) (qu := qu) (wi := wi) (ti := ti) (qa := qa) (bu := bu) (le := le) (b := b) (c := c) (j := j) (t := t) (fun h => inB_no h6 (by unfold CfgOk at h; omega)))
    clear h6
    go_wp2_with fail
    go_ret
    exact ⟨by rw [HN.out]; rfl, bOne _ _⟩
  have H6 := Lib.hid (inB_yes h6)
  clear h6
  go_wp2_with fail
  refine (Pol.specOk_any b c j t _).mono ?_
  rintro e w1 ⟨rfl, hb1⟩
  have HL := Lib.hid (bAfter (bOne w _) hb1 (by simp))
  clear hb1
  obtain ⟨x, hx⟩ : ∃ x, x = polB b c j t := ⟨_, rfl⟩
  rw [← hx]
  have HX := Lib.hid hx
  clear hx
  go_wp2_with fail
  go_ret
  refine ⟨?_, HL.out⟩
  rw [HX.out]
  exact bool_iff (by have := H0.out; have := H1.out; have := H2.out; have := H3.out; have := H4.out; have := H5.out; have := H6.out; unfold CfgOk PolOk; omega)

end Go.Proofs.YtkndpkingmemoaaDoor.Gat
namespace Go.Proofs.YtkndpkingmemoaaDoor.Gat
open Go.RowKit
open Lnk (bOne bAfter IOwn IIs below_keep below_drew')
set_option linter.unusedVariables false

end Go.Proofs.YtkndpkingmemoaaDoor.Gat
namespace Go.Proofs.YtkndpkingmemoaaDoor.Gat
open Go.RowKit
open Pol (bool_iff bool_no bOne bAfter PolOk polB)
set_option linter.unusedVariables false

end Go.Proofs.YtkndpkingmemoaaDoor.Gat
namespace Go.Proofs.YtkndpkingmemoaaDoor.Gat
open Go.RowKit
open Lnk (bOne bAfter IOwn IIs below_keep below_drew' bcell)
set_option linter.unusedVariables false

theorem sizeGate : (Tryd.prog.info? 33).map (·.size) = some 21 := by kernel_rfl
/-- a gate's lists, as read -/
structure GIs (B : Nat) (w : World) (ea : Option Addr) (en : Nat) (ka : Option Addr) (kn : Nat) (fa : Option Addr) (fn : Nat) (ra : Option Addr) (rn : Nat) (E : List Ev) (K : List Lk) (F R : List Int) : Prop where
  ev : EIs B w ea en E
  lk : LIs B w ka kn K
  lf : IIs B w fa fn F
  lt : IIs B w ra rn R
  fle : fn ≤ maxLen
  rle : rn ≤ maxLen
section
variable {B B' : Nat} {w w' : World} {ea : Option Addr} {en : Nat} {ka : Option Addr} {kn : Nat} {fa : Option Addr} {fn : Nat} {ra : Option Addr} {rn : Nat} {E : List Ev} {K : List Lk} {F R : List Int}
theorem GIs.below (h : GIs B w ea en ka kn fa fn ra rn E K F R) (hb : Below B w w') : GIs B w' ea en ka kn fa fn ra rn E K F R := ⟨h.ev.below hb, h.lk.below hb, h.lf.below hb, h.lt.below hb, h.fle, h.rle⟩
theorem GIs.mono (h : GIs B w ea en ka kn fa fn ra rn E K F R) (hB : B ≤ B') : GIs B' w ea en ka kn fa fn ra rn E K F R := ⟨h.ev.mono hB, h.lk.mono hB, h.lf.mono hB, h.lt.mono hB, h.fle, h.rle⟩
theorem GIs.here (h : GIs w.heap.size w ea en ka kn fa fn ra rn E K F R) (hb : Below w.heap.size w w') : GIs w'.heap.size w' ea en ka kn fa fn ra rn E K F R := (h.below hb).mono hb.size
end
/-- lists that are not too long -/
def Small (en kn fn rn : Nat) (K : List Lk) : Prop := en ≤ 1048576 ∧ kn ≤ 1048576 ∧ (∀ k ∈ K, k.l.length ≤ 1048576) ∧ fn ≤ 1048576 ∧ rn ≤ 1048576

/-- a gate's box -/
structure B21 (w : World) (k : Nat) (de qu wi ti qa bu le pb pc pj pt nw la : Int) (ea : Option Addr) (en ec : Nat) (ka : Option Addr) (kn kc : Nat) (tu : Int) (fa : Option Addr) (fn fc : Nat) (ra : Option Addr) (rn rc : Nat) (tk ac dr : Int) : Prop where
  c0 : w.cell? ⟨k, 0, none⟩ = some (.int .i64 de)
  c1 : w.cell? ⟨k, 1, none⟩ = some (.int .i64 qu)
  c2 : w.cell? ⟨k, 2, none⟩ = some (.int .i64 wi)
  c3 : w.cell? ⟨k, 3, none⟩ = some (.int .i64 ti)
  c4 : w.cell? ⟨k, 4, none⟩ = some (.int .i64 qa)
  c5 : w.cell? ⟨k, 5, none⟩ = some (.int .i64 bu)
  c6 : w.cell? ⟨k, 6, none⟩ = some (.int .i64 le)
  c7 : w.cell? ⟨k, 7, none⟩ = some (.int .i64 pb)
  c8 : w.cell? ⟨k, 8, none⟩ = some (.int .i64 pc)
  c9 : w.cell? ⟨k, 9, none⟩ = some (.int .i64 pj)
  c10 : w.cell? ⟨k, 10, none⟩ = some (.int .i64 pt)
  c11 : w.cell? ⟨k, 11, none⟩ = some (.int .i64 nw)
  c12 : w.cell? ⟨k, 12, none⟩ = some (.int .i64 la)
  c13 : w.cell? ⟨k, 13, none⟩ = some (.slice ea en ec)
  c14 : w.cell? ⟨k, 14, none⟩ = some (.slice ka kn kc)
  c15 : w.cell? ⟨k, 15, none⟩ = some (.int .i64 tu)
  c16 : w.cell? ⟨k, 16, none⟩ = some (.slice fa fn fc)
  c17 : w.cell? ⟨k, 17, none⟩ = some (.slice ra rn rc)
  c18 : w.cell? ⟨k, 18, none⟩ = some (.int .i64 tk)
  c19 : w.cell? ⟨k, 19, none⟩ = some (.int .i64 ac)
  c20 : w.cell? ⟨k, 20, none⟩ = some (.int .i64 dr)
  lt : k < w.heap.size
section
variable {w w' : World} {k : Nat} {de qu wi ti qa bu le pb pc pj pt nw la : Int} {ea : Option Addr} {en ec : Nat} {ka : Option Addr} {kn kc : Nat} {tu : Int} {fa : Option Addr} {fn fc : Nat} {ra : Option Addr} {rn rc : Nat} {tk ac dr : Int}
theorem B21.new (w : World) (de qu wi ti qa bu le pb pc pj pt nw la : Int) (ea : Option Addr) (en ec : Nat) (ka : Option Addr) (kn kc : Nat) (tu : Int) (fa : Option Addr) (fn fc : Nat) (ra : Option Addr) (rn rc : Nat) (tk ac dr : Int) (ty : TypeId) : B21 (w.alloc (.cells #[.int .i64 de, .int .i64 qu, .int .i64 wi, .int .i64 ti, .int .i64 qa, .int .i64 bu, .int .i64 le, .int .i64 pb, .int .i64 pc, .int .i64 pj, .int .i64 pt, .int .i64 nw, .int .i64 la, .slice ea en ec, .slice ka kn kc, .int .i64 tu, .slice fa fn fc, .slice ra rn rc, .int .i64 tk, .int .i64 ac, .int .i64 dr] ty)) w.heap.size de qu wi ti qa bu le pb pc pj pt nw la ea en ec ka kn kc tu fa fn fc ra rn rc tk ac dr :=
  ⟨cell_of_row _ _ 0 _ ty (0, 0) (heap_alloc_new w _), cell_of_row _ _ 1 _ ty (0, 0) (heap_alloc_new w _), cell_of_row _ _ 2 _ ty (0, 0) (heap_alloc_new w _), cell_of_row _ _ 3 _ ty (0, 0) (heap_alloc_new w _), cell_of_row _ _ 4 _ ty (0, 0) (heap_alloc_new w _), cell_of_row _ _ 5 _ ty (0, 0) (heap_alloc_new w _), cell_of_row _ _ 6 _ ty (0, 0) (heap_alloc_new w _), cell_of_row _ _ 7 _ ty (0, 0) (heap_alloc_new w _), cell_of_row _ _ 8 _ ty (0, 0) (heap_alloc_new w _), cell_of_row _ _ 9 _ ty (0, 0) (heap_alloc_new w _), cell_of_row _ _ 10 _ ty (0, 0) (heap_alloc_new w _), cell_of_row _ _ 11 _ ty (0, 0) (heap_alloc_new w _), cell_of_row _ _ 12 _ ty (0, 0) (heap_alloc_new w _), cell_of_row _ _ 13 _ ty (0, 0) (heap_alloc_new w _), cell_of_row _ _ 14 _ ty (0, 0) (heap_alloc_new w _), cell_of_row _ _ 15 _ ty (0, 0) (heap_alloc_new w _), cell_of_row _ _ 16 _ ty (0, 0) (heap_alloc_new w _), cell_of_row _ _ 17 _ ty (0, 0) (heap_alloc_new w _), cell_of_row _ _ 18 _ ty (0, 0) (heap_alloc_new w _), cell_of_row _ _ 19 _ ty (0, 0) (heap_alloc_new w _), cell_of_row _ _ 20 _ ty (0, 0) (heap_alloc_new w _), by simp⟩
theorem B21.below (h : B21 w k de qu wi ti qa bu le pb pc pj pt nw la ea en ec ka kn kc tu fa fn fc ra rn rc tk ac dr) (hb : Below w.heap.size w w') : B21 w' k de qu wi ti qa bu le pb pc pj pt nw la ea en ec ka kn kc tu fa fn fc ra rn rc tk ac dr :=
  ⟨(hb.cell (p := ⟨k, 0, none⟩) h.lt).trans h.c0, (hb.cell (p := ⟨k, 1, none⟩) h.lt).trans h.c1, (hb.cell (p := ⟨k, 2, none⟩) h.lt).trans h.c2, (hb.cell (p := ⟨k, 3, none⟩) h.lt).trans h.c3, (hb.cell (p := ⟨k, 4, none⟩) h.lt).trans h.c4, (hb.cell (p := ⟨k, 5, none⟩) h.lt).trans h.c5, (hb.cell (p := ⟨k, 6, none⟩) h.lt).trans h.c6, (hb.cell (p := ⟨k, 7, none⟩) h.lt).trans h.c7, (hb.cell (p := ⟨k, 8, none⟩) h.lt).trans h.c8, (hb.cell (p := ⟨k, 9, none⟩) h.lt).trans h.c9, (hb.cell (p := ⟨k, 10, none⟩) h.lt).trans h.c10, (hb.cell (p := ⟨k, 11, none⟩) h.lt).trans h.c11, (hb.cell (p := ⟨k, 12, none⟩) h.lt).trans h.c12, (hb.cell (p := ⟨k, 13, none⟩) h.lt).trans h.c13, (hb.cell (p := ⟨k, 14, none⟩) h.lt).trans h.c14, (hb.cell (p := ⟨k, 15, none⟩) h.lt).trans h.c15, (hb.cell (p := ⟨k, 16, none⟩) h.lt).trans h.c16, (hb.cell (p := ⟨k, 17, none⟩) h.lt).trans h.c17, (hb.cell (p := ⟨k, 18, none⟩) h.lt).trans h.c18, (hb.cell (p := ⟨k, 19, none⟩) h.lt).trans h.c19, (hb.cell (p := ⟨k, 20, none⟩) h.lt).trans h.c20, Nat.lt_of_lt_of_le h.lt hb.size⟩
theorem B21.low {B : Nat} (h : B21 w k de qu wi ti qa bu le pb pc pj pt nw la ea en ec ka kn kc tu fa fn fc ra rn rc tk ac dr) (hb : Below B w w') (hlt : k < B) : B21 w' k de qu wi ti qa bu le pb pc pj pt nw la ea en ec ka kn kc tu fa fn fc ra rn rc tk ac dr :=
  ⟨(hb.cell (p := ⟨k, 0, none⟩) hlt).trans h.c0, (hb.cell (p := ⟨k, 1, none⟩) hlt).trans h.c1, (hb.cell (p := ⟨k, 2, none⟩) hlt).trans h.c2, (hb.cell (p := ⟨k, 3, none⟩) hlt).trans h.c3, (hb.cell (p := ⟨k, 4, none⟩) hlt).trans h.c4, (hb.cell (p := ⟨k, 5, none⟩) hlt).trans h.c5, (hb.cell (p := ⟨k, 6, none⟩) hlt).trans h.c6, (hb.cell (p := ⟨k, 7, none⟩) hlt).trans h.c7, (hb.cell (p := ⟨k, 8, none⟩) hlt).trans h.c8, (hb.cell (p := ⟨k, 9, none⟩) hlt).trans h.c9, (hb.cell (p := ⟨k, 10, none⟩) hlt).trans h.c10, (hb.cell (p := ⟨k, 11, none⟩) hlt).trans h.c11, (hb.cell (p := ⟨k, 12, none⟩) hlt).trans h.c12, (hb.cell (p := ⟨k, 13, none⟩) hlt).trans h.c13, (hb.cell (p := ⟨k, 14, none⟩) hlt).trans h.c14, (hb.cell (p := ⟨k, 15, none⟩) hlt).trans h.c15, (hb.cell (p := ⟨k, 16, none⟩) hlt).trans h.c16, (hb.cell (p := ⟨k, 17, none⟩) hlt).trans h.c17, (hb.cell (p := ⟨k, 18, none⟩) hlt).trans h.c18, (hb.cell (p := ⟨k, 19, none⟩) hlt).trans h.c19, (hb.cell (p := ⟨k, 20, none⟩) hlt).trans h.c20, Nat.lt_of_lt_of_le h.lt hb.size⟩
end
end Go.Proofs.YtkndpkingmemoaaDoor.Gat
