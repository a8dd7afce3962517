/-
  The walks of the laws' marks on ints, and of what holds two rows of ints, two links against each other.
  Rows of messages, of links and of ints: copied and compared.
  The walks of PolicyOk and Longest, of the program and of the specification, and of the laws FnExactPolicyOk and FnExactLongest.
  A config: when it is right, its box; the walks of ConfigOk, of the program and of the specification, and of the law FnExactConfigOk.
  Rows of messages and of links, and configs, compared with their like.
  A config that came in, copied; the walk of the law FnExactConfigOk.
  A gate: as it is read, its box; measured, copied, compared with its like.
  How a gate, and a config, that came in by value is read.
-/
import Derived.Test.YtkndpkingmemoaaGreatDoorMgb
import Derived.Test.YtkndpkingmemoaaGreatDoorProg
import Derived.WalkKit
import Derived.WalkSpells
import Derived.WalkLawsBesides
import Derived.Lib.Hide
import Derived.Deep.QuietTactic
import Derived.BigQuiet
import Derived.Below
import Derived.IntWalk
import Derived.Test.YtkndpkingmemoaaGreatDoorMga
import Derived.ChangeSlices
namespace Go.Proofs.YtkndpkingmemoaaGreatDoor.Lnk
open Go.RowKit
set_option linter.unusedVariables false

set_option maxRecDepth 100000 in
set_option maxHeartbeats 400000 in
theorem eqIntS_yes (w : World) (B : Nat) (a1 a2 : Option Addr) (len c1 c2 : Nat) (l : List Int) (h1 : IIs B w a1 len l) (h2 : IIs B w a2 len l) (hlen : len ≤ 2000000) (hB : B ≤ w.heap.size) :
    Calls Tryz.prog 80 #[.slice a1 len c1, .slice a2 len c2] w fun e w' => e = .returned (.bool true) ∧ Below w.heap.size w w' := by
  have H1 := Lib.hid h1
  have H2 := Lib.hid h2
  have HL := Lib.hid h1.hlen
  clear h1 h2
  go_enter Tryz.func80, Tryz.ntmps80
  go_wp2
  go_loopw [5] (fun i wr => ∃ j : Nat, j ≤ len ∧ i = .int .i64 j ∧ Hid (Below w.heap.size w wr)) (fun i _ => len - (intOf i).toNat)
  case atStart => exact ⟨0, by omega, rfl, Lib.hid (Below.refl _ _)⟩
  case round =>
    obtain ⟨j, hj, rfl, HB⟩ := hrel
    by_cases hlt : (j : Int) < (len : Int)
    · have hjl : j < l.length := by have := HL.out; omega
      obtain ⟨b1, o1, rfl, hb1, c0⟩ := (H1.out.below (HB.out.mono hB)).cell j hjl
      obtain ⟨b2, o2, rfl, hb2, d0⟩ := (H2.out.below (HB.out.mono hB)).cell j hjl
      obtain ⟨z, hz⟩ : ∃ z, z = l[j] := ⟨_, rfl⟩
      rw [← hz] at c0 d0
      clear hz
      go_wp2_with fail
      go_quiet (fail)
      go_wp2_with fail
      go_roundw
      case rel => exact ⟨j + 1, by omega, by go_num, Lib.hid (below_drewN HB.out _)⟩
      case measure => simp [intOf]; omega
    · go_wp2
      go_ret
      exact ⟨rfl, HB.out⟩

end Go.Proofs.YtkndpkingmemoaaGreatDoor.Lnk
namespace Go.Proofs.YtkndpkingmemoaaGreatDoor.Gat
open Go.RowKit
open Lnk (bOne bAfter IOwn IIs below_keep below_drew')
set_option linter.unusedVariables false

theorem infoEvent : (Tryz.prog.info? 39).map (fun i => (i.zero, i.size, i.bytes)) = some (some (.agg #[.int .i64 0, .int .i64 0, .int .i64 0, .string ByteArray.empty, .int .i64 0, .int .i64 0, .int .i64 0, .int .i64 0, .int .i64 0]), 9, 80) := by kernel_rfl
theorem infoLink : (Tryz.prog.info? 82).map (fun i => (i.zero, i.size, i.bytes)) = some (some (.agg #[.bool false, .int .i64 0, .int .i64 0, .slice none 0 0]), 4, 48) := by kernel_rfl
theorem infoInt' : (Tryz.prog.info? 3).map (fun i => (i.zero, i.size, i.bytes)) = some (some (.int .i64 0), 1, 8) := by kernel_rfl

/-- a slice of structs that was handed back: new, and of the call's own -/
def RowEnd {α : Type} (S : Shp α) (E : TypeId) (w w' : World) (l : List α) (e : Ending) : Prop :=
  (∃ a cap, e = .returned (.slice a l.length cap) ∧ ROwn S w.heap.size w' E (.slice a l.length cap) l) ∧ Below w.heap.size w w'
/-- the same of ints -/
def IntEnd (w w' : World) (l : List Int) (e : Ending) : Prop :=
  (∃ a cap, e = .returned (.slice a l.length cap) ∧ IOwn w.heap.size w' (.slice a l.length cap) l) ∧ Below w.heap.size w w'
theorem eown_at {B : Nat} {w : World} {E : TypeId} {g n' cap : Nat} {l : List Ev} (h : ROwn evS B w E (.slice (some ⟨g, 0, none⟩) n' cap) l) (k : Nat) (hk : k < l.length) :
    (∃ i d c bd at_ t r n s, C9 w g (k * 9) i d c bd at_ t r n s) ∧ w.frozen? ⟨g, k * 9, none⟩ = false ∧ w.frozen? ⟨g, k * 9 + 1, none⟩ = false ∧ w.frozen? ⟨g, k * 9 + 2, none⟩ = false ∧ w.frozen? ⟨g, k * 9 + 3, none⟩ = false ∧ w.frozen? ⟨g, k * 9 + 4, none⟩ = false ∧ w.frozen? ⟨g, k * 9 + 5, none⟩ = false ∧ w.frozen? ⟨g, k * 9 + 6, none⟩ = false ∧ w.frozen? ⟨g, k * 9 + 7, none⟩ = false ∧ w.frozen? ⟨g, k * 9 + 8, none⟩ = false := by
  refine ⟨?_, h.frozenAt _, h.frozenAt _, h.frozenAt _, h.frozenAt _, h.frozenAt _, h.frozenAt _, h.frozenAt _, h.frozenAt _, h.frozenAt _⟩
  cases hl : l[k] with
  | mk i d c bd at_ t r n s =>
    refine ⟨i, d, c, bd, at_, t, r, n, s, ?_, ?_, ?_, ?_, ?_, ?_, ?_, ?_, ?_⟩
    all_goals
      first
        | exact h.cellAt k hk 0 _ (by rw [hl]; rfl)
        | exact h.cellAt k hk 1 _ (by rw [hl]; rfl)
        | exact h.cellAt k hk 2 _ (by rw [hl]; rfl)
        | exact h.cellAt k hk 3 _ (by rw [hl]; rfl)
        | exact h.cellAt k hk 4 _ (by rw [hl]; rfl)
        | exact h.cellAt k hk 5 _ (by rw [hl]; rfl)
        | exact h.cellAt k hk 6 _ (by rw [hl]; rfl)
        | exact h.cellAt k hk 7 _ (by rw [hl]; rfl)
        | exact h.cellAt k hk 8 _ (by rw [hl]; rfl)
theorem lown_at {B : Nat} {w : World} {E : TypeId} {g n' cap : Nat} {l : List Lr} (h : ROwn lrS B w E (.slice (some ⟨g, 0, none⟩) n' cap) l) (k : Nat) (hk : k < l.length) :
    (∃ up ep sq v, l[k] = ⟨up, ep, sq, v⟩ ∧ C4 w g (k * 4) up ep sq v) ∧ w.frozen? ⟨g, k * 4, none⟩ = false ∧ w.frozen? ⟨g, k * 4 + 1, none⟩ = false ∧ w.frozen? ⟨g, k * 4 + 2, none⟩ = false ∧ w.frozen? ⟨g, k * 4 + 3, none⟩ = false := by
  refine ⟨?_, h.frozenAt _, h.frozenAt _, h.frozenAt _, h.frozenAt _⟩
  cases hl : l[k] with
  | mk up ep sq v => exact ⟨up, ep, sq, v, rfl, h.cellAt k hk 0 _ (by rw [hl]; rfl), h.cellAt k hk 1 _ (by rw [hl]; rfl), h.cellAt k hk 2 _ (by rw [hl]; rfl), h.cellAt k hk 3 _ (by rw [hl]; rfl)⟩

theorem eown_set {B : Nat} {w : World} {E : TypeId} {g cap n' : Nat} {l : List Ev} (h : ROwn evS B w E (.slice (some ⟨g, 0, none⟩) n' cap) l) (k : Nat) (hk : k < l.length) (x : Ev) (i d c : Int) (bd : ByteArray) (at_ t r n s : Int) (hx : x = ⟨i, d, c, bd, at_, t, r, n, s⟩) :
    ROwn evS B (((((((((w.setCell ⟨g, k * 9, none⟩ (.int .i64 i)).setCell ⟨g, k * 9 + 1, none⟩ (.int .i64 d)).setCell ⟨g, k * 9 + 2, none⟩ (.int .i64 c)).setCell ⟨g, k * 9 + 3, none⟩ (.string bd)).setCell ⟨g, k * 9 + 4, none⟩ (.int .i64 at_)).setCell ⟨g, k * 9 + 5, none⟩ (.int .i64 t)).setCell ⟨g, k * 9 + 6, none⟩ (.int .i64 r)).setCell ⟨g, k * 9 + 7, none⟩ (.int .i64 n)).setCell ⟨g, k * 9 + 8, none⟩ (.int .i64 s)) E (.slice (some ⟨g, 0, none⟩) n' cap) (l.set k x) ∧ w.grownBy (((((((((w.setCell ⟨g, k * 9, none⟩ (.int .i64 i)).setCell ⟨g, k * 9 + 1, none⟩ (.int .i64 d)).setCell ⟨g, k * 9 + 2, none⟩ (.int .i64 c)).setCell ⟨g, k * 9 + 3, none⟩ (.string bd)).setCell ⟨g, k * 9 + 4, none⟩ (.int .i64 at_)).setCell ⟨g, k * 9 + 5, none⟩ (.int .i64 t)).setCell ⟨g, k * 9 + 6, none⟩ (.int .i64 r)).setCell ⟨g, k * 9 + 7, none⟩ (.int .i64 n)).setCell ⟨g, k * 9 + 8, none⟩ (.int .i64 s)) (some g) := by
  subst hx
  exact h.set k hk ⟨i, d, c, bd, at_, t, r, n, s⟩
theorem lown_set {B : Nat} {w : World} {E : TypeId} {g cap n' : Nat} {l : List Lr} (h : ROwn lrS B w E (.slice (some ⟨g, 0, none⟩) n' cap) l) (k : Nat) (hk : k < l.length) (up : Bool) (ep sq : Int) (v : Value) :
    ROwn lrS B ((((w.setCell ⟨g, k * 4, none⟩ (.bool up)).setCell ⟨g, k * 4 + 1, none⟩ (.int .i64 ep)).setCell ⟨g, k * 4 + 2, none⟩ (.int .i64 sq)).setCell ⟨g, k * 4 + 3, none⟩ v) E (.slice (some ⟨g, 0, none⟩) n' cap) (l.set k ⟨up, ep, sq, v⟩) ∧ w.grownBy ((((w.setCell ⟨g, k * 4, none⟩ (.bool up)).setCell ⟨g, k * 4 + 1, none⟩ (.int .i64 ep)).setCell ⟨g, k * 4 + 2, none⟩ (.int .i64 sq)).setCell ⟨g, k * 4 + 3, none⟩ v) (some g) :=
  h.set k hk ⟨up, ep, sq, v⟩

set_option maxRecDepth 100000 in
set_option maxHeartbeats 1000000 in
theorem toEventS_any (w : World) (a : Option Addr) (len cap : Nat) (l : List Ev) (h : EIs w.heap.size w a len l) (hlen : len ≤ 1048576) :
    Calls Tryz.prog 74 #[.slice a len cap] w fun e w' => RowEnd evS 39 w w' l e := by
  obtain ⟨i0, hi, hz0, hz1, hz2⟩ := info_parts infoEvent
  have hl := h.row.hlen
  have HT := Lib.hid h
  have HL := Lib.hid hl
  clear h
  go_enter Tryz.func74, Tryz.ntmps74
  go_wp2_with (first | (at_make; refine wpList_make_full _ rfl _ _ 28 rfl w.heap.size 39 i0 (.agg #[.int .i64 0, .int .i64 0, .int .i64 0, .string ByteArray.empty, .int .i64 0, .int .i64 0, .int .i64 0, .int .i64 0, .int .i64 0]) 9 Tryz.underlying28 hi hz0 hz1 .i64 .i64 _ _ len rfl rfl rfl rfl (by rw [hz2]; omega) (by unfold maxLen; omega) (Nat.le_refl _) ?_; intro w1 hown1 hg1) | go_in)
  have hbel1 : Below w.heap.size w w1 := (Below.refl _ _).grown hg1 (Nat.le_refl _) (fun k e => by cases e)
  have hown1' : ROwn evS w.heap.size w1 39 (.slice (some ⟨w.heap.size, 0, none⟩) len len) (l.take 0 ++ List.replicate (l.length - 0) ev0) := by
    have hm := flatF_made evS (.agg #[.int .i64 0, .int .i64 0, .int .i64 0, .string ByteArray.empty, .int .i64 0, .int .i64 0, .int .i64 0, .int .i64 0, .int .i64 0]) ev0 len (by decide) rfl
    unfold ROwn
    rw [show (madeCells (Value.agg #[.int .i64 0, .int .i64 0, .int .i64 0, .string ByteArray.empty, .int .i64 0, .int .i64 0, .int .i64 0, .int .i64 0, .int .i64 0]).cells (len * 9)).toList = flatF evS (List.replicate len ev0) from hm] at hown1
    rw [show l.take 0 ++ List.replicate (l.length - 0) ev0 = List.replicate len ev0 by simp [hl], show (List.replicate len ev0).length = len by simp]
    exact hown1
  clear hl hown1
  go_loopw [4] (fun i wr => ∃ j : Nat, j ≤ len ∧ i = .int .i64 j ∧ Hid (ROwn evS w.heap.size wr 39 (.slice (some ⟨w.heap.size, 0, none⟩) len len) (l.take j ++ List.replicate (l.length - j) ev0)) ∧ Hid (Below w.heap.size w wr)) (fun i _ => len - (intOf i).toNat)
  case atStart => exact ⟨0, by omega, rfl, Lib.hid hown1', Lib.hid hbel1⟩
  case round =>
    obtain ⟨j, hj, rfl, HO, HB⟩ := hrel
    by_cases hlt : (j : Int) < (len : Int)
    · have hjl : j < l.length := by have := HL.out; omega
      obtain ⟨b, off, i, d, c, bd, at_, t, r, n, s, rfl, hb, hlj, hbd, c0, c1, c2, c3, c4, c5, c6, c7, c8⟩ := (HT.out.below HB.out).at j hjl
      have HJ := Lib.hid hlj
      clear hlj hbd
      go_wp2_with fail
      refine (Evt.toEvent_any i d c bd at_ t r n s _).mono ?_
      rintro e w2 ⟨rfl, hb2⟩
      have ho2 := HO.out.below hb2
      have hjj : j < (l.take j ++ List.replicate (l.length - j) ev0).length := by simp; omega
      obtain ⟨⟨z0, z1, z2, z3, z4, z5, z6, z7, z8, d0, d1, d2, d3, d4, d5, d6, d7, d8⟩, f0, f1, f2, f3, f4, f5, f6, f7, f8⟩ := eown_at ho2 j hjj
      have hst := eown_set ho2 j hjj l[j] i d c bd at_ t r n s HJ.out
      rw [set_next' l ev0 j hjl _ rfl] at hst
      have HS := Lib.hid hst
      have HW2 := Lib.hid (bAfter HB.out hb2 HB.out.size)
      clear hst ho2 hjj hb2 c0 c1 c2 c3 c4 c5 c6 c7 c8
      go_wp2_with fail
      go_roundw
      case rel => exact ⟨j + 1, by omega, by go_num, Lib.hid HS.out.1, Lib.hid (HW2.out.grown HS.out.2 (by have := HW2.out.size; omega) (fun k e => by cases e; exact Nat.le_refl _))⟩
      case measure => simp [intOf]; omega
    · have hjl : j = l.length := by have := HL.out; omega
      have hfin : l.take j ++ List.replicate (l.length - j) ev0 = l := by rw [hjl]; simp
      have HO' := Lib.hid (hfin ▸ HO.out)
      clear HO hfin hjl
      go_wp2
      go_ret
      have hn := HL.out
      exact ⟨⟨_, _, by rw [hn]; rfl, by have := HO'.out; rwa [hn]⟩, HB.out⟩

set_option maxRecDepth 100000 in
set_option maxHeartbeats 1000000 in
theorem toIntS_any (w : World) (a : Option Addr) (len cap : Nat) (l : List Int) (h : IIs w.heap.size w a len l) (hlen : len ≤ 1048576) :
    Calls Tryz.prog 76 #[.slice a len cap] w fun e w' => IntEnd w w' l e := by
  obtain ⟨i0, hi, hz0, hz1, hz2⟩ := info_parts infoInt'
  have hl := h.hlen
  have HT := Lib.hid h
  have HL := Lib.hid hl
  clear h
  go_enter Tryz.func76, Tryz.ntmps76
  go_wp2_with (first | (at_make; refine wpList_make_full _ rfl _ _ 30 rfl w.heap.size 3 i0 (.int .i64 0) 1 Tryz.underlying30 hi hz0 hz1 .i64 .i64 _ _ len rfl rfl rfl rfl (by rw [hz2]; omega) (by unfold maxLen; omega) (Nat.le_refl _) ?_; intro w1 hown1 hg1) | go_in)
  have hbel1 : Below w.heap.size w w1 := (Below.refl _ _).grown hg1 (Nat.le_refl _) (fun k e => by cases e)
  have hown1' : IOwn w.heap.size w1 (.slice (some ⟨w.heap.size, 0, none⟩) len len) (l.take 0 ++ List.replicate (l.length - 0) 0) := by
    rw [show (Value.int IntKind.i64 0).cells = #[.int .i64 0] from rfl, Nat.mul_one, toList_madeCells_one] at hown1
    unfold IOwn
    simpa [hl] using hown1
  clear hl hown1
  go_loopw [4] (fun i wr => ∃ j : Nat, j ≤ len ∧ i = .int .i64 j ∧ Hid (IOwn w.heap.size wr (.slice (some ⟨w.heap.size, 0, none⟩) len len) (l.take j ++ List.replicate (l.length - j) 0)) ∧ Hid (Below w.heap.size w wr)) (fun i _ => len - (intOf i).toNat)
  case atStart => exact ⟨0, by omega, rfl, Lib.hid hown1', Lib.hid hbel1⟩
  case round =>
    obtain ⟨j, hj, rfl, HO, HB⟩ := hrel
    by_cases hlt : (j : Int) < (len : Int)
    · have hjl : j < l.length := by have := HL.out; omega
      obtain ⟨b, off, rfl, hb, c0⟩ := (HT.out.below HB.out).cell j hjl
      obtain ⟨x, hx⟩ : ∃ x, x = l[j] := ⟨_, rfl⟩
      rw [← hx] at c0
      have HX := Lib.hid hx
      clear hx
      have hjj : j < (l.take j ++ List.replicate (l.length - j) 0).length := by simp; omega
      obtain ⟨d0, f0⟩ := HO.out.cellAt j hjj
      obtain ⟨z, hz⟩ : ∃ z, z = (l.take j ++ List.replicate (l.length - j) 0)[j] := ⟨_, rfl⟩
      rw [← hz] at d0
      have hst := HO.out.set j hjj x
      rw [set_next' l 0 j hjl x HX.out] at hst
      have HS := Lib.hid hst
      have HW2 := HB
      clear hst hz hjj
      go_wp2_with fail
      go_roundw
      case rel => exact ⟨j + 1, by omega, by go_num, Lib.hid HS.out.1, Lib.hid (HW2.out.grown HS.out.2 (by have := HW2.out.size; omega) (fun k e => by cases e; exact Nat.le_refl _))⟩
      case measure => simp [intOf]; omega
    · have hjl : j = l.length := by have := HL.out; omega
      have hfin : l.take j ++ List.replicate (l.length - j) 0 = l := by rw [hjl]; simp
      have HO' := Lib.hid (hfin ▸ HO.out)
      clear HO hfin hjl
      go_wp2
      go_ret
      have hn := HL.out
      exact ⟨⟨_, _, by rw [hn]; rfl, by have := HO'.out; rwa [hn]⟩, HB.out⟩

theorem yis_grown {w w' : World} {g : Nat} {a : Option Addr} {n : Nat} {l : List Lnk.Y} (h : Lnk.YIs w.heap.size w a n l) (hg : w.grownBy w' (some g)) (hne : ∀ b, a.map (·.block) = some b → b ≠ g) : Lnk.YIs w'.heap.size w' a n l :=
  ⟨h.hlen, h.le, fun k hk => by
    obtain ⟨b, off, e, hlt, h0, h1, h2⟩ := h.cell k hk
    have hb := hne b (by rw [e]; rfl)
    have hb' : some b ≠ some g := fun e => hb (by injection e)
    exact ⟨b, off, e, Nat.lt_of_lt_of_le hlt hg.size, hg.cell (a := ⟨b, off + k * 3, none⟩) h0 hb', hg.cell (a := ⟨b, off + k * 3 + 1, none⟩) h1 hb', hg.cell (a := ⟨b, off + k * 3 + 2, none⟩) h2 hb'⟩⟩
theorem own_map {a : Option Addr} {n c : Nat} : (Value.slice a n c).ownBlock = a.map (·.block) := by cases a <;> rfl
theorem LrIs.grown {w w' : World} {g : Nat} {r : Lr} {k : Lk} (h : LrIs w.heap.size w r k) (hg : w.grownBy w' (some g)) (hne : ∀ q, r.v.ownBlock = some q → q ≠ g) : LrIs w'.heap.size w' r k := by
  obtain ⟨h1, h2, h3, a, len, cap, h4, h5⟩ := h
  exact ⟨h1, h2, h3, a, len, cap, h4, yis_grown h5 hg (fun b hb => hne b (by rw [h4, own_map, hb]))⟩
/-- a row of links under way, in block g: the first j of them are done -/
structure LGo (B g : Nat) (w : World) (v : Value) (raw : List Lr) (l : List Lk) (j : Nat) : Prop where
  own : ROwn lrS B w 82 v raw
  len : raw.length = l.length
  done : ∀ k (h : k < raw.length) (h' : k < l.length), k < j → LrIs w.heap.size w raw[k] l[k] ∧ ∀ q, raw[k].v.ownBlock = some q → g < q
theorem LGo.start {B g : Nat} {w : World} {v : Value} {l : List Lk} (h : ROwn lrS B w 82 v (List.replicate l.length lr0)) : LGo B g w v (List.replicate l.length lr0) l 0 :=
  ⟨h, by simp, fun k _ _ h => by omega⟩
theorem LGo.below {B g : Nat} {w w' : World} {v : Value} {raw : List Lr} {l : List Lk} {j : Nat} (h : LGo B g w v raw l j) (hb : Below w.heap.size w w') : LGo B g w' v raw l j :=
  ⟨h.own.below hb, h.len, fun k hk hk' hj => ⟨((h.done k hk hk' hj).1.below hb).mono hb.size, (h.done k hk hk' hj).2⟩⟩
theorem LGo.step {B g : Nat} {w w' : World} {n cap : Nat} {raw : List Lr} {l : List Lk} {j : Nat} {up : Bool} {ep sq : Int} {y : List Lnk.Y} {a : Option Addr} {yn yc : Nat} (h : LGo B g w (.slice (some ⟨g, 0, none⟩) n cap) raw l j) (hj : j < l.length) (hl : l[j] = ⟨up, ep, sq, y⟩)
    (hy : Lnk.YIs w.heap.size w a yn y) (hi : ∀ q, (Value.slice a yn yc).ownBlock = some q → g < q)
    (ho : ROwn lrS B w' 82 (.slice (some ⟨g, 0, none⟩) n cap) (raw.set j ⟨up, ep, sq, .slice a yn yc⟩)) (hg : w.grownBy w' (some g)) : LGo B g w' (.slice (some ⟨g, 0, none⟩) n cap) (raw.set j ⟨up, ep, sq, .slice a yn yc⟩) l (j + 1) := by
  refine ⟨ho, by rw [List.length_set]; exact h.len, fun k hk hk' hkj => ?_⟩
  rw [List.length_set] at hk
  by_cases e : k = j
  · subst e
    rw [List.getElem_set_self, hl]
    exact ⟨LrIs.grown ⟨rfl, rfl, rfl, a, yn, yc, rfl, hy⟩ hg (fun q hq => by have := hi q hq; omega), hi⟩
  · rw [List.getElem_set_ne (by omega)]
    have h1 := h.done k hk hk' (by omega)
    exact ⟨h1.1.grown hg (fun q hq => by have := h1.2 q hq; omega), h1.2⟩
theorem yis_agree {w w' : World} {a : Option Addr} {n : Nat} {l : List Lnk.Y} (h : Lnk.YIs w.heap.size w a n l) (hs : w.heap.size ≤ w'.heap.size) (hh : ∀ b, a.map (·.block) = some b → b < w.heap.size → w'.heap[b]? = w.heap[b]?) : Lnk.YIs w'.heap.size w' a n l :=
  ⟨h.hlen, h.le, fun k hk => by
    obtain ⟨b, off, e, hlt, h0, h1, h2⟩ := h.cell k hk
    have hb := hh b (by rw [e]; rfl) hlt
    exact ⟨b, off, e, Nat.lt_of_lt_of_le hlt hs, (World.cell?_of_block (a := ⟨b, off + k * 3, none⟩) hb).trans h0, (World.cell?_of_block (a := ⟨b, off + k * 3 + 1, none⟩) hb).trans h1, (World.cell?_of_block (a := ⟨b, off + k * 3 + 2, none⟩) hb).trans h2⟩⟩
theorem LGo.end_ {B g : Nat} {w : World} {n cap : Nat} {a : Option Addr} {raw : List Lr} {l : List Lk} (hBg : B ≤ g) (h : LGo B g w (.slice a n cap) raw l l.length) : n = l.length ∧ Fresh B w (fun w => LIs w.heap.size w a n l) := by
  have h1 := h.own.is
  refine ⟨h1.1.trans h.len, fun w' hs hh => ⟨raw, (h.own.fresh w' hs hh).isN, h.len, fun k hk hk' => ?_⟩⟩
  obtain ⟨⟨e1, e2, e3, a, len, cap, e4, hy⟩, hq⟩ := h.done k hk hk' hk'
  exact ⟨e1, e2, e3, a, len, cap, e4, yis_agree hy hs (fun b hb hlt => hh b (by have := hq b (by rw [e4, own_map, hb]); omega) hlt)⟩

end Go.Proofs.YtkndpkingmemoaaGreatDoor.Gat
namespace Go.Proofs.YtkndpkingmemoaaGreatDoor.Pol
open Go.RowKit
set_option linter.unusedVariables false

/-- a right policy -/
def PolOk (b c j t : Int) : Prop := 1 ≤ b ∧ b ≤ c ∧ c ≤ 100000 ∧ 0 ≤ j ∧ j ≤ 1000 ∧ 1 ≤ t ∧ t ≤ 1000000
instance (b c j t : Int) : Decidable (PolOk b c j t) := by unfold PolOk; infer_instance
def polB (b c j t : Int) : Bool := decide (PolOk b c j t)
/-- the value of a policy -/
def pv (b c j t : Int) : Value := .agg #[.int .i64 b, .int .i64 c, .int .i64 j, .int .i64 t]

theorem bool_iff {p q : Prop} [Decidable p] [Decidable q] (h : p ↔ q) : Ending.returned (.bool (decide p)) = Ending.returned (.bool (decide q)) := by rw [decide_eq_decide.2 h]
theorem bool_no {p : Prop} [Decidable p] (h : ¬ p) : Ending.returned (.bool false) = Ending.returned (.bool (decide p)) := by rw [decide_eq_false h]

theorem in_any (x a b : Int) (w : World) :
    Calls Tryz.prog 63 #[.int .i64 x, .int .i64 a, .int .i64 b] w fun e w' => e = .returned (.bool (decide (a ≤ x ∧ x ≤ b))) ∧ w = w' := by
  go_enter Tryz.func63, Tryz.ntmps63
  go_wp2
  all_goals
    go_ret
    refine ⟨?_, rfl⟩
    first
      | exact bool_iff (by omega)
      | exact bool_no (by omega)
      | (simp; intro; omega)

theorem implOk_any (b c j t : Int) (w : World) :
    Calls Tryz.prog 99 #[.agg #[.int .i64 b, .int .i64 c, .int .i64 j, .int .i64 t]] w fun e w' => e = .returned (.bool (polB b c j t)) ∧ Below w.heap.size w w' := by
  go_enter Tryz.func99, Tryz.ntmps99
  go_wp2
  all_goals
    go_ret
    refine ⟨?_, (Below.refl _ _).alloc (Nat.le_refl _) _⟩
    unfold polB
    first
      | exact bool_iff (by unfold PolOk; omega)
      | exact bool_no (by unfold PolOk; omega)

theorem toPolicy_any (b c j t : Int) (w : World) :
    Calls Tryz.prog 122 #[.agg #[.int .i64 b, .int .i64 c, .int .i64 j, .int .i64 t]] w fun e w' => e = .returned (.agg #[.int .i64 b, .int .i64 c, .int .i64 j, .int .i64 t]) ∧ Below w.heap.size w w' := by
  go_enter Tryz.func122, Tryz.ntmps122
  go_wp2
  refine bodyPost_ret (v := .agg #[.int .i64 b, .int .i64 c, .int .i64 j, .int .i64 t]) (by simp [results, Tryz.results122, go_sem]) rfl ⟨rfl, ?_⟩
  repeat' first
    | exact Below.refl _ _
    | refine Below.setCell ?_ (by simp; try omega) _
    | refine Below.alloc ?_ (by simp; try omega) _
    | refine Below.drew ?_

theorem specOk_any (b c j t : Int) (w : World) :
    Calls Tryz.prog 149 #[.agg #[.int .i64 b, .int .i64 c, .int .i64 j, .int .i64 t]] w fun e w' => e = .returned (.bool (polB b c j t)) ∧ Below w.heap.size w w' := by
  go_enter Tryz.func149, Tryz.ntmps149
  go_wp2
  all_goals
    go_ret
    refine ⟨?_, (Below.refl _ _).alloc (Nat.le_refl _) _⟩
    unfold polB
    first
      | exact bool_iff (by unfold PolOk; omega)
      | exact bool_no (by unfold PolOk; omega)

/-- a policy's box -/
structure B4 (w : World) (k : Nat) (b c j t : Int) : Prop where
  c0 : w.cell? ⟨k, 0, none⟩ = some (.int .i64 b)
  c1 : w.cell? ⟨k, 1, none⟩ = some (.int .i64 c)
  c2 : w.cell? ⟨k, 2, none⟩ = some (.int .i64 j)
  c3 : w.cell? ⟨k, 3, none⟩ = some (.int .i64 t)
  lt : k < w.heap.size
theorem B4.new (w : World) (b c j t : Int) (ty : TypeId) : B4 (w.alloc (.cells #[.int .i64 b, .int .i64 c, .int .i64 j, .int .i64 t] ty)) w.heap.size b c j t :=
  ⟨cell_of_row _ _ 0 _ ty (0, 0) (heap_alloc_new w _), cell_of_row _ _ 1 _ ty (0, 0) (heap_alloc_new w _), cell_of_row _ _ 2 _ ty (0, 0) (heap_alloc_new w _), cell_of_row _ _ 3 _ ty (0, 0) (heap_alloc_new w _), by simp⟩
theorem B4.below {w w' : World} {k : Nat} {b c j t : Int} (h : B4 w k b c j t) (hb : Below w.heap.size w w') : B4 w' k b c j t :=
  ⟨(hb.cell (p := ⟨k, 0, none⟩) h.lt).trans h.c0, (hb.cell (p := ⟨k, 1, none⟩) h.lt).trans h.c1, (hb.cell (p := ⟨k, 2, none⟩) h.lt).trans h.c2, (hb.cell (p := ⟨k, 3, none⟩) h.lt).trans h.c3, Nat.lt_of_lt_of_le h.lt hb.size⟩
theorem bOne (w : World) (o : Obj) : Below w.heap.size w (w.alloc o) := (Below.refl _ _).alloc (Nat.le_refl _) _
theorem bAfter {B : Nat} {a w w' : World} (h : Below B a w) (h2 : Below w.heap.size w w') (hB : B ≤ w.heap.size) : Below B a w' := h.trans (h2.mono hB)
end Go.Proofs.YtkndpkingmemoaaGreatDoor.Pol
namespace Go.Proofs.YtkndpkingmemoaaGreatDoor.Gat
open Go.RowKit
set_option linter.unusedVariables false
open Pol (bool_iff bool_no bOne bAfter PolOk polB)
def CfgOk (de qu wi ti qa bu le b c j t : Int) : Prop := 1 ≤ de ∧ de ≤ 6 ∧ 1 ≤ qu ∧ qu ≤ 10 ∧ 1 ≤ wi ∧ wi ≤ 8 ∧ 1 ≤ ti ∧ ti ≤ 1000 ∧ 1 ≤ qa ∧ qa ≤ 20 ∧ 1 ≤ bu ∧ bu ≤ de ∧ 1 ≤ le ∧ le ≤ 20 ∧ PolOk b c j t
instance (de qu wi ti qa bu le b c j t : Int) : Decidable (CfgOk de qu wi ti qa bu le b c j t) := by unfold CfgOk; infer_instance
def cfgB (de qu wi ti qa bu le b c j t : Int) : Bool := decide (CfgOk de qu wi ti qa bu le b c j t)
def inB (lo hi x : Int) : Bool := decide (lo ≤ x ∧ x ≤ hi)
theorem inB_yes {lo hi x : Int} (h : inB lo hi x = true) : lo ≤ x ∧ x ≤ hi := of_decide_eq_true h
theorem inB_no {lo hi x : Int} (h : inB lo hi x = false) : ¬ (lo ≤ x ∧ x ≤ hi) := of_decide_eq_false h
theorem cfgB_no {de qu wi ti qa bu le b c j t : Int} (h : ¬ CfgOk de qu wi ti qa bu le b c j t) : cfgB de qu wi ti qa bu le b c j t = false := decide_eq_false h
theorem cfgB_yes {de qu wi ti qa bu le b c j t : Int} (h : CfgOk de qu wi ti qa bu le b c j t) : cfgB de qu wi ti qa bu le b c j t = true := decide_eq_true h
/-- a config's box -/
structure B11 (w : World) (k : Nat) (de qu wi ti qa bu le b c j t : Int) : Prop where
  c0 : w.cell? ⟨k, 0, none⟩ = some (.int .i64 de)
  c1 : w.cell? ⟨k, 1, none⟩ = some (.int .i64 qu)
  c2 : w.cell? ⟨k, 2, none⟩ = some (.int .i64 wi)
  c3 : w.cell? ⟨k, 3, none⟩ = some (.int .i64 ti)
  c4 : w.cell? ⟨k, 4, none⟩ = some (.int .i64 qa)
  c5 : w.cell? ⟨k, 5, none⟩ = some (.int .i64 bu)
  c6 : w.cell? ⟨k, 6, none⟩ = some (.int .i64 le)
  c7 : w.cell? ⟨k, 7, none⟩ = some (.int .i64 b)
  c8 : w.cell? ⟨k, 8, none⟩ = some (.int .i64 c)
  c9 : w.cell? ⟨k, 9, none⟩ = some (.int .i64 j)
  c10 : w.cell? ⟨k, 10, none⟩ = some (.int .i64 t)
  lt : k < w.heap.size
theorem B11.new (w : World) (de qu wi ti qa bu le b c j t : Int) (ty : TypeId) : B11 (w.alloc (.cells #[.int .i64 de, .int .i64 qu, .int .i64 wi, .int .i64 ti, .int .i64 qa, .int .i64 bu, .int .i64 le, .int .i64 b, .int .i64 c, .int .i64 j, .int .i64 t] ty)) w.heap.size de qu wi ti qa bu le b c j t :=
  ⟨cell_of_row _ _ 0 _ ty (0, 0) (heap_alloc_new w _), cell_of_row _ _ 1 _ ty (0, 0) (heap_alloc_new w _), cell_of_row _ _ 2 _ ty (0, 0) (heap_alloc_new w _), cell_of_row _ _ 3 _ ty (0, 0) (heap_alloc_new w _), cell_of_row _ _ 4 _ ty (0, 0) (heap_alloc_new w _), cell_of_row _ _ 5 _ ty (0, 0) (heap_alloc_new w _), cell_of_row _ _ 6 _ ty (0, 0) (heap_alloc_new w _), cell_of_row _ _ 7 _ ty (0, 0) (heap_alloc_new w _), cell_of_row _ _ 8 _ ty (0, 0) (heap_alloc_new w _), cell_of_row _ _ 9 _ ty (0, 0) (heap_alloc_new w _), cell_of_row _ _ 10 _ ty (0, 0) (heap_alloc_new w _), by simp⟩
theorem B11.below {w w' : World} {k : Nat} {de qu wi ti qa bu le b c j t : Int} (h : B11 w k de qu wi ti qa bu le b c j t) (hb : Below w.heap.size w w') : B11 w' k de qu wi ti qa bu le b c j t :=
  ⟨(hb.cell (p := ⟨k, 0, none⟩) h.lt).trans h.c0, (hb.cell (p := ⟨k, 1, none⟩) h.lt).trans h.c1, (hb.cell (p := ⟨k, 2, none⟩) h.lt).trans h.c2, (hb.cell (p := ⟨k, 3, none⟩) h.lt).trans h.c3, (hb.cell (p := ⟨k, 4, none⟩) h.lt).trans h.c4, (hb.cell (p := ⟨k, 5, none⟩) h.lt).trans h.c5, (hb.cell (p := ⟨k, 6, none⟩) h.lt).trans h.c6, (hb.cell (p := ⟨k, 7, none⟩) h.lt).trans h.c7, (hb.cell (p := ⟨k, 8, none⟩) h.lt).trans h.c8, (hb.cell (p := ⟨k, 9, none⟩) h.lt).trans h.c9, (hb.cell (p := ⟨k, 10, none⟩) h.lt).trans h.c10, Nat.lt_of_lt_of_le h.lt hb.size⟩

theorem in_any (x lo hi : Int) (w : World) :
    Calls Tryz.prog 63 #[.int .i64 x, .int .i64 lo, .int .i64 hi] w fun e w' => e = .returned (.bool (inB lo hi x)) ∧ w = w' := by
  go_enter Tryz.func63, Tryz.ntmps63
  go_wp2
  all_goals
    go_ret
    refine ⟨?_, rfl⟩
    unfold inB
    first
      | exact bool_iff (by omega)
      | exact bool_no (by omega)

set_option maxRecDepth 100000 in
set_option maxHeartbeats 2000000 in
theorem implCfg_any (de qu wi ti qa bu le b c j t : Int) (w : World) :
    Calls Tryz.prog 43 #[.agg #[.int .i64 de, .int .i64 qu, .int .i64 wi, .int .i64 ti, .int .i64 qa, .int .i64 bu, .int .i64 le, .int .i64 b, .int .i64 c, .int .i64 j, .int .i64 t]] w fun e w' => e = .returned (.bool (cfgB de qu wi ti qa bu le b c j t)) ∧ Below w.heap.size w w' := by
  have HB := Lib.hid (B11.new w de qu wi ti qa bu le b c j t 27)
  go_enter Tryz.func43, Tryz.ntmps43
  go_wp2_with fail
  · refine (Pol.implOk_any b c j t _).mono ?_
    rintro e w1 ⟨rfl, hb1⟩
    have HL := Lib.hid (bAfter (bOne w _) hb1 (by simp))
    clear hb1
    obtain ⟨x, hx⟩ : ∃ x, x = polB b c j t := ⟨_, rfl⟩
    rw [← hx]
    have HX := Lib.hid hx
    clear hx
    go_wp2_with fail
    go_ret
    refine ⟨?_, HL.out⟩
    rw [HX.out]
    exact bool_iff (by unfold CfgOk PolOk; omega)
  all_goals
    go_ret
    refine ⟨?_, bOne _ _⟩
    unfold cfgB
    first
      | exact bool_iff (by unfold CfgOk PolOk; omega)
      | exact bool_no (by unfold CfgOk PolOk; omega)

set_option maxRecDepth 100000 in
set_option maxHeartbeats 2000000 in
theorem specCfg_any (de qu wi ti qa bu le b c j t : Int) (w : World) :
    Calls Tryz.prog 111 #[.agg #[.int .i64 de, .int .i64 qu, .int .i64 wi, .int .i64 ti, .int .i64 qa, .int .i64 bu, .int .i64 le, .int .i64 b, .int .i64 c, .int .i64 j, .int .i64 t]] w fun e w' => e = .returned (.bool (cfgB de qu wi ti qa bu le b c j t)) ∧ Below w.heap.size w w' := by
  have HB := Lib.hid (B11.new w de qu wi ti qa bu le b c j t 27)
  go_enter Tryz.func111, Tryz.ntmps111
  go_wp2_with fail
  refine (in_any de 1 6 _).mono ?_
  rintro e w0 ⟨rfl, rfl⟩
  cases h0 : inB 1 6 de
  · have HN := Lib.hid (cfgB_no (de := de) (qu := qu) (wi := wi) (ti := ti) (qa := qa) (bu := bu) (le := le) (b := b) (c := c) (j := j) (t := t) (fun h => inB_no h0 (by unfold CfgOk at h; omega)))
    clear h0
    go_wp2_with fail
    go_ret
    exact ⟨by rw [HN.out]; rfl, bOne _ _⟩
  have H0 := Lib.hid (inB_yes h0)
  clear h0
  go_wp2_with fail
  refine (in_any qu 1 10 _).mono ?_
  rintro e w1 ⟨rfl, rfl⟩
  cases h1 : inB 1 10 qu
  · have HN := Lib.hid (cfgB_no (de := de) (qu := qu) (wi := wi) (ti := ti) (qa := qa) (bu := bu) (le := le) (b := b) (c := c) (j := j) (t := t) (fun h => inB_no h1 (by unfold CfgOk at h; omega)))
    clear h1
    go_wp2_with fail
    go_ret
    exact ⟨by rw [HN.out]; rfl, bOne _ _⟩
  have H1 := Lib.hid (inB_yes h1)
  clear h1
  go_wp2_with fail
  refine (in_any wi 1 8 _).mono ?_
  rintro e w2 ⟨rfl, rfl⟩
  cases h2 : inB 1 8 wi
  · have HN := Lib.hid (cfgB_no (de := de) (qu := qu) (wi := wi) (ti := ti) (qa := qa) (bu := bu) (le := le) (b := b) (c := c) (j := j) (t := t) (fun h => inB_no h2 (by unfold CfgOk at h; omega)))
    clear h2
    go_wp2_with fail
    go_ret
    exact ⟨by rw [HN.out]; rfl, bOne _ _⟩
  have H2 := Lib.hid (inB_yes h2)
  clear h2
  go_wp2_with fail
  refine (in_any ti 1 1000 _).mono ?_
  rintro e w3 ⟨rfl, rfl⟩
  cases h3 : inB 1 1000 ti
  · have HN := Lib.hid (cfgB_no (de := de) (qu := qu) (wi := wi) (ti := ti) (qa := qa) (bu := bu) (le := le) (b := b) (c := c) (j := j) (t := t) (fun h => inB_no h3 (by unfold CfgOk at h; omega)))
    clear h3
    go_wp2_with fail
    go_ret
    exact ⟨by rw [HN.out]; rfl, bOne _ _⟩
  have H3 := Lib.hid (inB_yes h3)
  clear h3
  go_wp2_with fail
  refine (in_any qa 1 20 _).mono ?_
  rintro e w4 ⟨rfl, rfl⟩
  cases h4 : inB 1 20 qa
  · have HN := Lib.hid (cfgB_no (de := de) (qu := qu) (wi := wi) (ti := ti) (qa := qa) (bu := bu) (le := le) (b := b) (c := c) (j := j) (t := t) (fun h => inB_no h4 (by unfold CfgOk at h; omega)))
    clear h4
    go_wp2_with fail
    go_ret
    exact ⟨by rw [HN.out]; rfl, bOne _ _⟩
  have H4 := Lib.hid (inB_yes h4)
  clear h4
  go_wp2_with fail
  refine (in_any bu 1 de _).mono ?_
  rintro e w5 ⟨rfl, rfl⟩
  cases h5 : inB 1 de bu
  · have HN := Lib.hid (cfgB_no (de := de) (qu := qu) (wi := wi) (ti := ti) (qa := qa) (bu := bu) (le := le) (b := b) (c := c) (j := j) (t := t) (fun h => inB_no h5 (by unfold CfgOk at h; omega)))
    clear h5
    go_wp2_with fail
    go_ret
    exact ⟨by rw [HN.out]; rfl, bOne _ _⟩
  have H5 := Lib.hid (inB_yes h5)
  clear h5
  go_wp2_with fail
  refine (in_any le 1 20 _).mono ?_
  rintro e w6 ⟨rfl, rfl⟩
  cases h6 : inB 1 20 le
  · have HN := Lib.hid (cfgB_no (de := de) (qu := qu) (wi := wi) (ti := ti) (qa := qa) (bu := bu) (le := le) (b := b) (c := c) (j := j) (t := t) (fun h => inB_no h6 (by unfold CfgOk at h; omega)))
    clear h6
    go_wp2_with fail
    go_ret
    exact ⟨by rw [HN.out]; rfl, bOne _ _⟩
  have H6 := Lib.hid (inB_yes h6)
  clear h6
  go_wp2_with fail
  refine (Pol.specOk_any b c j t _).mono ?_
  rintro e w1 ⟨rfl, hb1⟩
  have HL := Lib.hid (bAfter (bOne w _) hb1 (by simp))
  clear hb1
  obtain ⟨x, hx⟩ : ∃ x, x = polB b c j t := ⟨_, rfl⟩
  rw [← hx]
  have HX := Lib.hid hx
  clear hx
  go_wp2_with fail
  go_ret
  refine ⟨?_, HL.out⟩
  rw [HX.out]
  exact bool_iff (by have := H0.out; have := H1.out; have := H2.out; have := H3.out; have := H4.out; have := H5.out; have := H6.out; unfold CfgOk PolOk; omega)

end Go.Proofs.YtkndpkingmemoaaGreatDoor.Gat
namespace Go.Proofs.YtkndpkingmemoaaGreatDoor.Gat
open Go.RowKit
open Lnk (bOne bAfter IOwn IIs below_keep below_drew')
set_option linter.unusedVariables false

set_option maxRecDepth 100000 in
set_option maxHeartbeats 2000000 in
theorem eqEventS_yes (w : World) (B : Nat) (a1 a2 : Option Addr) (len c1 c2 : Nat) (l : List Ev) (h1 : EIs B w a1 len l) (h2 : EIs B w a2 len l) (hB : B ≤ w.heap.size) :
    Calls Tryz.prog 78 #[.slice a1 len c1, .slice a2 len c2] w fun e w' => e = .returned (.bool true) ∧ Below w.heap.size w w' := by
  have hl := h1.row.hlen
  have hle := h1.row.le
  unfold maxLen at hle
  have H1 := Lib.hid h1
  have H2 := Lib.hid h2
  have HL := Lib.hid hl
  clear h1 h2 hl
  go_enter Tryz.func78, Tryz.ntmps78
  go_wp2
  go_loopw [5] (fun i wr => ∃ j : Nat, j ≤ len ∧ i = .int .i64 j ∧ Below w.heap.size w wr) (fun i _ => len - (intOf i).toNat)
  case atStart => exact ⟨0, by omega, rfl, Below.refl _ _⟩
  case round =>
    obtain ⟨j, hj, rfl, hbel⟩ := hrel
    have hsz := hbel.size
    by_cases hlt : (j : Int) < (len : Int)
    · have hjl : j < l.length := by have := HL.out; omega
      obtain ⟨b1, o1, i, d, c, bd, at_, t, r, n, s, e1, hb1, hlj, hbd, c0, c1, c2, c3, c4, c5, c6, c7, c8⟩ := (H1.out.below (hbel.mono hB)).at j hjl
      obtain ⟨b2, o2, i', d', c', bd', at_', t', r', n', s', e2, hb2, hlj2, hbd2, d0, d1, d2, d3, d4, d5, d6, d7, d8⟩ := (H2.out.below (hbel.mono hB)).at j hjl
      rw [hlj] at hlj2
      simp only [Ev.mk.injEq] at hlj2
      obtain ⟨rfl, rfl, rfl, rfl, rfl, rfl, rfl, rfl, rfl⟩ := hlj2
      clear hlj hbd hbd2
      subst e1 e2
      have hs1 : b1 < wr.heap.size := by omega
      have hs2 : b2 < wr.heap.size := by omega
      go_wp2
      go_region_held3 (fun w' => w'.cell? ⟨b1, o1 + j * 9, none⟩ = some (.int .i64 i) ∧ w'.cell? ⟨b1, o1 + j * 9 + 1, none⟩ = some (.int .i64 d) ∧ w'.cell? ⟨b1, o1 + j * 9 + 2, none⟩ = some (.int .i64 c) ∧ w'.cell? ⟨b1, o1 + j * 9 + 3, none⟩ = some (.string bd) ∧ w'.cell? ⟨b1, o1 + j * 9 + 4, none⟩ = some (.int .i64 at_) ∧ w'.cell? ⟨b1, o1 + j * 9 + 5, none⟩ = some (.int .i64 t) ∧ w'.cell? ⟨b1, o1 + j * 9 + 6, none⟩ = some (.int .i64 r) ∧ w'.cell? ⟨b1, o1 + j * 9 + 7, none⟩ = some (.int .i64 n) ∧ w'.cell? ⟨b1, o1 + j * 9 + 8, none⟩ = some (.int .i64 s) ∧ w'.cell? ⟨b2, o2 + j * 9, none⟩ = some (.int .i64 i) ∧ w'.cell? ⟨b2, o2 + j * 9 + 1, none⟩ = some (.int .i64 d) ∧ w'.cell? ⟨b2, o2 + j * 9 + 2, none⟩ = some (.int .i64 c) ∧ w'.cell? ⟨b2, o2 + j * 9 + 3, none⟩ = some (.string bd) ∧ w'.cell? ⟨b2, o2 + j * 9 + 4, none⟩ = some (.int .i64 at_) ∧ w'.cell? ⟨b2, o2 + j * 9 + 5, none⟩ = some (.int .i64 t) ∧ w'.cell? ⟨b2, o2 + j * 9 + 6, none⟩ = some (.int .i64 r) ∧ w'.cell? ⟨b2, o2 + j * 9 + 7, none⟩ = some (.int .i64 n) ∧ w'.cell? ⟨b2, o2 + j * 9 + 8, none⟩ = some (.int .i64 s))
        (first | go_keep | (go_split_ands; exact ⟨below_keep hb3 (Nat.le_refl _) hs1 ‹_›, below_keep hb3 (Nat.le_refl _) hs1 ‹_›, below_keep hb3 (Nat.le_refl _) hs1 ‹_›, below_keep hb3 (Nat.le_refl _) hs1 ‹_›, below_keep hb3 (Nat.le_refl _) hs1 ‹_›, below_keep hb3 (Nat.le_refl _) hs1 ‹_›, below_keep hb3 (Nat.le_refl _) hs1 ‹_›, below_keep hb3 (Nat.le_refl _) hs1 ‹_›, below_keep hb3 (Nat.le_refl _) hs1 ‹_›, below_keep hb3 (Nat.le_refl _) hs2 ‹_›, below_keep hb3 (Nat.le_refl _) hs2 ‹_›, below_keep hb3 (Nat.le_refl _) hs2 ‹_›, below_keep hb3 (Nat.le_refl _) hs2 ‹_›, below_keep hb3 (Nat.le_refl _) hs2 ‹_›, below_keep hb3 (Nat.le_refl _) hs2 ‹_›, below_keep hb3 (Nat.le_refl _) hs2 ‹_›, below_keep hb3 (Nat.le_refl _) hs2 ‹_›, below_keep hb3 (Nat.le_refl _) hs2 ‹_›⟩))
        (first | (go_at_call 126; refine (Evt.eqEvent_same i d c bd at_ t r n s _).mono ?_; rintro e w3 ⟨rfl, hb3⟩))
      go_wp2
      go_roundw
      case rel => exact ⟨j + 1, by omega, by go_num, (below_drew' hbel).trans (hb3.mono (by simpa using hsz))⟩
      case measure => simp [intOf]; omega
    · go_wp2
      go_ret
      exact ⟨rfl, hbel⟩

set_option maxRecDepth 100000 in
set_option maxHeartbeats 2000000 in
theorem eqLinkS_yes (w : World) (B : Nat) (a1 a2 : Option Addr) (len c1 c2 : Nat) (l : List Lk) (h1 : LIs B w a1 len l) (h2 : LIs B w a2 len l) (hB : B ≤ w.heap.size) :
    Calls Tryz.prog 79 #[.slice a1 len c1, .slice a2 len c2] w fun e w' => e = .returned (.bool true) ∧ Below w.heap.size w w' := by
  have hl := h1.hlen
  have hle := h1.le
  unfold maxLen at hle
  have H1 := Lib.hid h1
  have H2 := Lib.hid h2
  have HL := Lib.hid hl
  clear h1 h2 hl
  go_enter Tryz.func79, Tryz.ntmps79
  go_wp2
  go_loopw [5] (fun i wr => ∃ j : Nat, j ≤ len ∧ i = .int .i64 j ∧ Below w.heap.size w wr) (fun i _ => len - (intOf i).toNat)
  case atStart => exact ⟨0, by omega, rfl, Below.refl _ _⟩
  case round =>
    obtain ⟨j, hj, rfl, hbel⟩ := hrel
    have hsz := hbel.size
    by_cases hlt : (j : Int) < (len : Int)
    · have hjl : j < l.length := by have := HL.out; omega
      obtain ⟨b1, o1, up, ep, sq, y, fa1, fl, fc1, e1, hb1, hlj, hy1, c0, c1, c2, c3⟩ := (H1.out.below (hbel.mono hB)).at j hjl
      obtain ⟨b2, o2, up', ep', sq', y', fa2, fl', fc2, e2, hb2, hlj2, hy2, d0, d1, d2, d3⟩ := (H2.out.below (hbel.mono hB)).at j hjl
      rw [hlj] at hlj2
      simp only [Lk.mk.injEq] at hlj2
      obtain ⟨rfl, rfl, rfl, rfl⟩ := hlj2
      obtain rfl : fl = fl' := by rw [← hy1.hlen, ← hy2.hlen]
      have HY1 := Lib.hid hy1
      have HY2 := Lib.hid hy2
      have HBM := Lib.hid (Nat.le_trans hB hsz)
      clear hlj hy1 hy2
      subst e1 e2
      have hs1 : b1 < wr.heap.size := by omega
      have hs2 : b2 < wr.heap.size := by omega
      go_wp2
      go_region_held3 (fun w' => (w'.cell? ⟨b1, o1 + j * 4, none⟩ = some (.bool up) ∧ w'.cell? ⟨b1, o1 + j * 4 + 1, none⟩ = some (.int .i64 ep) ∧ w'.cell? ⟨b1, o1 + j * 4 + 2, none⟩ = some (.int .i64 sq) ∧ w'.cell? ⟨b1, o1 + j * 4 + 3, none⟩ = some (.slice fa1 fl fc1) ∧ w'.cell? ⟨b2, o2 + j * 4, none⟩ = some (.bool up) ∧ w'.cell? ⟨b2, o2 + j * 4 + 1, none⟩ = some (.int .i64 ep) ∧ w'.cell? ⟨b2, o2 + j * 4 + 2, none⟩ = some (.int .i64 sq) ∧ w'.cell? ⟨b2, o2 + j * 4 + 3, none⟩ = some (.slice fa2 fl fc2)))
        (first | go_keep | (go_split_ands; exact ⟨below_keep hb3 (Nat.le_refl _) hs1 ‹_›, below_keep hb3 (Nat.le_refl _) hs1 ‹_›, below_keep hb3 (Nat.le_refl _) hs1 ‹_›, below_keep hb3 (Nat.le_refl _) hs1 ‹_›, below_keep hb3 (Nat.le_refl _) hs2 ‹_›, below_keep hb3 (Nat.le_refl _) hs2 ‹_›, below_keep hb3 (Nat.le_refl _) hs2 ‹_›, below_keep hb3 (Nat.le_refl _) hs2 ‹_›⟩))
        (first | (go_at_call 127; refine (Lnk.eqLink_yes _ B fa1 fa2 fl fc1 fc2 up ep sq y (HY1.out.below (by first | exact Below.refl _ _ | exact below_drew' (Below.refl _ _))) (HY2.out.below (by first | exact Below.refl _ _ | exact below_drew' (Below.refl _ _))) (by simpa using HBM.out)).mono ?_; rintro e w3 ⟨rfl, hb3⟩))
      go_wp2
      go_roundw
      case rel => exact ⟨j + 1, by omega, by go_num, (below_drew' hbel).trans (hb3.mono (by simpa using hsz))⟩
      case measure => simp [intOf]; omega
    · go_wp2
      go_ret
      exact ⟨rfl, hbel⟩

end Go.Proofs.YtkndpkingmemoaaGreatDoor.Gat
namespace Go.Proofs.YtkndpkingmemoaaGreatDoor.Gat
open Go.RowKit
open Pol (bool_iff bool_no bOne bAfter PolOk polB)
set_option linter.unusedVariables false

set_option maxRecDepth 100000 in
set_option maxHeartbeats 2000000 in
theorem toConfig_any (de qu wi ti qa bu le b c j t : Int) (w : World) :
    Calls Tryz.prog 73 #[.agg #[.int .i64 de, .int .i64 qu, .int .i64 wi, .int .i64 ti, .int .i64 qa, .int .i64 bu, .int .i64 le, .int .i64 b, .int .i64 c, .int .i64 j, .int .i64 t]] w fun e w' => e = .returned (.agg #[.int .i64 de, .int .i64 qu, .int .i64 wi, .int .i64 ti, .int .i64 qa, .int .i64 bu, .int .i64 le, .int .i64 b, .int .i64 c, .int .i64 j, .int .i64 t]) ∧ Below w.heap.size w w' := by
  go_enter Tryz.func73, Tryz.ntmps73
  go_wp2_with fail
  refine (Pol.toPolicy_any b c j t _).mono ?_
  rintro e w3 ⟨rfl, hb3⟩
  obtain ⟨hc, hf⟩ := Lnk.bcell hb3
  have hz : w.heap.size + 3 ≤ w3.heap.size := by have := hb3.size; simp at this; omega
  have HB3 := Lib.hid hb3
  clear hb3
  go_wp2_with fail
  refine bodyPost_ret (v := .agg #[.int .i64 de, .int .i64 qu, .int .i64 wi, .int .i64 ti, .int .i64 qa, .int .i64 bu, .int .i64 le, .int .i64 b, .int .i64 c, .int .i64 j, .int .i64 t]) (by simp [results, Tryz.results73, go_sem, hc]) rfl ⟨rfl, ?_⟩
  have h1 : Below w.heap.size w w3 := by
    refine Below.trans ?_ (HB3.out.mono (by simp; omega))
    repeat' first
      | with_reducible exact Below.refl _ _
      | refine Below.setCell ?_ (by simp; try omega) _
      | refine Below.alloc ?_ (by simp; try omega) _
      | refine Below.drew ?_
  repeat' first
    | with_reducible exact h1
    | refine Below.setCell ?_ (by simp; try omega) _
    | refine Below.alloc ?_ (by simp; try omega) _
    | refine Below.drew ?_

end Go.Proofs.YtkndpkingmemoaaGreatDoor.Gat
namespace Go.Proofs.YtkndpkingmemoaaGreatDoor.Gat
open Go.RowKit
open Lnk (bOne bAfter IOwn IIs below_keep below_drew' bcell)
set_option linter.unusedVariables false

theorem sizeGate : (Tryz.prog.info? 32).map (·.size) = some 21 := by kernel_rfl
/-- a gate's lists, as read -/
structure GIs (B : Nat) (w : World) (ea : Option Addr) (en : Nat) (ka : Option Addr) (kn : Nat) (fa : Option Addr) (fn : Nat) (ra : Option Addr) (rn : Nat) (E : List Ev) (K : List Lk) (F R : List Int) : Prop where
  ev : EIs B w ea en E
  lk : LIs B w ka kn K
  lf : IIs B w fa fn F
  lt : IIs B w ra rn R
  fle : fn ≤ maxLen
  rle : rn ≤ maxLen
section
variable {B B' : Nat} {w w' : World} {ea : Option Addr} {en : Nat} {ka : Option Addr} {kn : Nat} {fa : Option Addr} {fn : Nat} {ra : Option Addr} {rn : Nat} {E : List Ev} {K : List Lk} {F R : List Int}
theorem GIs.below (h : GIs B w ea en ka kn fa fn ra rn E K F R) (hb : Below B w w') : GIs B w' ea en ka kn fa fn ra rn E K F R := ⟨h.ev.below hb, h.lk.below hb, h.lf.below hb, h.lt.below hb, h.fle, h.rle⟩
theorem GIs.mono (h : GIs B w ea en ka kn fa fn ra rn E K F R) (hB : B ≤ B') : GIs B' w ea en ka kn fa fn ra rn E K F R := ⟨h.ev.mono hB, h.lk.mono hB, h.lf.mono hB, h.lt.mono hB, h.fle, h.rle⟩
theorem GIs.here (h : GIs w.heap.size w ea en ka kn fa fn ra rn E K F R) (hb : Below w.heap.size w w') : GIs w'.heap.size w' ea en ka kn fa fn ra rn E K F R := (h.below hb).mono hb.size
end
/-- lists that are not too long -/
def Small (en kn fn rn : Nat) (K : List Lk) : Prop := en ≤ 1048576 ∧ kn ≤ 1048576 ∧ (∀ k ∈ K, k.l.length ≤ 1048576) ∧ fn ≤ 1048576 ∧ rn ≤ 1048576

/-- a gate's box -/
structure B21 (w : World) (k : Nat) (de qu wi ti qa bu le pb pc pj pt nw la : Int) (ea : Option Addr) (en ec : Nat) (ka : Option Addr) (kn kc : Nat) (tu : Int) (fa : Option Addr) (fn fc : Nat) (ra : Option Addr) (rn rc : Nat) (tk ac dr : Int) : Prop where
  c0 : w.cell? ⟨k, 0, none⟩ = some (.int .i64 de)
  c1 : w.cell? ⟨k, 1, none⟩ = some (.int .i64 qu)
  c2 : w.cell? ⟨k, 2, none⟩ = some (.int .i64 wi)
  c3 : w.cell? ⟨k, 3, none⟩ = some (.int .i64 ti)
  c4 : w.cell? ⟨k, 4, none⟩ = some (.int .i64 qa)
  c5 : w.cell? ⟨k, 5, none⟩ = some (.int .i64 bu)
  c6 : w.cell? ⟨k, 6, none⟩ = some (.int .i64 le)
  c7 : w.cell? ⟨k, 7, none⟩ = some (.int .i64 pb)
  c8 : w.cell? ⟨k, 8, none⟩ = some (.int .i64 pc)
  c9 : w.cell? ⟨k, 9, none⟩ = some (.int .i64 pj)
  c10 : w.cell? ⟨k, 10, none⟩ = some (.int .i64 pt)
  c11 : w.cell? ⟨k, 11, none⟩ = some (.int .i64 nw)
  c12 : w.cell? ⟨k, 12, none⟩ = some (.int .i64 la)
  c13 : w.cell? ⟨k, 13, none⟩ = some (.slice ea en ec)
  c14 : w.cell? ⟨k, 14, none⟩ = some (.slice ka kn kc)
  c15 : w.cell? ⟨k, 15, none⟩ = some (.int .i64 tu)
  c16 : w.cell? ⟨k, 16, none⟩ = some (.slice fa fn fc)
  c17 : w.cell? ⟨k, 17, none⟩ = some (.slice ra rn rc)
  c18 : w.cell? ⟨k, 18, none⟩ = some (.int .i64 tk)
  c19 : w.cell? ⟨k, 19, none⟩ = some (.int .i64 ac)
  c20 : w.cell? ⟨k, 20, none⟩ = some (.int .i64 dr)
  lt : k < w.heap.size
section
variable {w w' : World} {k : Nat} {de qu wi ti qa bu le pb pc pj pt nw la : Int} {ea : Option Addr} {en ec : Nat} {ka : Option Addr} {kn kc : Nat} {tu : Int} {fa : Option Addr} {fn fc : Nat} {ra : Option Addr} {rn rc : Nat} {tk ac dr : Int}
theorem B21.new (w : World) (de qu wi ti qa bu le pb pc pj pt nw la : Int) (ea : Option Addr) (en ec : Nat) (ka : Option Addr) (kn kc : Nat) (tu : Int) (fa : Option Addr) (fn fc : Nat) (ra : Option Addr) (rn rc : Nat) (tk ac dr : Int) (ty : TypeId) : B21 (w.alloc (.cells #[.int .i64 de, .int .i64 qu, .int .i64 wi, .int .i64 ti, .int .i64 qa, .int .i64 bu, .int .i64 le, .int .i64 pb, .int .i64 pc, .int .i64 pj, .int .i64 pt, .int .i64 nw, .int .i64 la, .slice ea en ec, .slice ka kn kc, .int .i64 tu, .slice fa fn fc, .slice ra rn rc, .int .i64 tk, .int .i64 ac, .int .i64 dr] ty)) w.heap.size de qu wi ti qa bu le pb pc pj pt nw la ea en ec ka kn kc tu fa fn fc ra rn rc tk ac dr :=
  ⟨cell_of_row _ _ 0 _ ty (0, 0) (heap_alloc_new w _), cell_of_row _ _ 1 _ ty (0, 0) (heap_alloc_new w _), cell_of_row _ _ 2 _ ty (0, 0) (heap_alloc_new w _), cell_of_row _ _ 3 _ ty (0, 0) (heap_alloc_new w _), cell_of_row _ _ 4 _ ty (0, 0) (heap_alloc_new w _), cell_of_row _ _ 5 _ ty (0, 0) (heap_alloc_new w _), cell_of_row _ _ 6 _ ty (0, 0) (heap_alloc_new w _), cell_of_row _ _ 7 _ ty (0, 0) (heap_alloc_new w _), cell_of_row _ _ 8 _ ty (0, 0) (heap_alloc_new w _), cell_of_row _ _ 9 _ ty (0, 0) (heap_alloc_new w _), cell_of_row _ _ 10 _ ty (0, 0) (heap_alloc_new w _), cell_of_row _ _ 11 _ ty (0, 0) (heap_alloc_new w _), cell_of_row _ _ 12 _ ty (0, 0) (heap_alloc_new w _), cell_of_row _ _ 13 _ ty (0, 0) (heap_alloc_new w _), cell_of_row _ _ 14 _ ty (0, 0) (heap_alloc_new w _), cell_of_row _ _ 15 _ ty (0, 0) (heap_alloc_new w _), cell_of_row _ _ 16 _ ty (0, 0) (heap_alloc_new w _), cell_of_row _ _ 17 _ ty (0, 0) (heap_alloc_new w _), cell_of_row _ _ 18 _ ty (0, 0) (heap_alloc_new w _), cell_of_row _ _ 19 _ ty (0, 0) (heap_alloc_new w _), cell_of_row _ _ 20 _ ty (0, 0) (heap_alloc_new w _), by simp⟩
theorem B21.below (h : B21 w k de qu wi ti qa bu le pb pc pj pt nw la ea en ec ka kn kc tu fa fn fc ra rn rc tk ac dr) (hb : Below w.heap.size w w') : B21 w' k de qu wi ti qa bu le pb pc pj pt nw la ea en ec ka kn kc tu fa fn fc ra rn rc tk ac dr :=
  ⟨(hb.cell (p := ⟨k, 0, none⟩) h.lt).trans h.c0, (hb.cell (p := ⟨k, 1, none⟩) h.lt).trans h.c1, (hb.cell (p := ⟨k, 2, none⟩) h.lt).trans h.c2, (hb.cell (p := ⟨k, 3, none⟩) h.lt).trans h.c3, (hb.cell (p := ⟨k, 4, none⟩) h.lt).trans h.c4, (hb.cell (p := ⟨k, 5, none⟩) h.lt).trans h.c5, (hb.cell (p := ⟨k, 6, none⟩) h.lt).trans h.c6, (hb.cell (p := ⟨k, 7, none⟩) h.lt).trans h.c7, (hb.cell (p := ⟨k, 8, none⟩) h.lt).trans h.c8, (hb.cell (p := ⟨k, 9, none⟩) h.lt).trans h.c9, (hb.cell (p := ⟨k, 10, none⟩) h.lt).trans h.c10, (hb.cell (p := ⟨k, 11, none⟩) h.lt).trans h.c11, (hb.cell (p := ⟨k, 12, none⟩) h.lt).trans h.c12, (hb.cell (p := ⟨k, 13, none⟩) h.lt).trans h.c13, (hb.cell (p := ⟨k, 14, none⟩) h.lt).trans h.c14, (hb.cell (p := ⟨k, 15, none⟩) h.lt).trans h.c15, (hb.cell (p := ⟨k, 16, none⟩) h.lt).trans h.c16, (hb.cell (p := ⟨k, 17, none⟩) h.lt).trans h.c17, (hb.cell (p := ⟨k, 18, none⟩) h.lt).trans h.c18, (hb.cell (p := ⟨k, 19, none⟩) h.lt).trans h.c19, (hb.cell (p := ⟨k, 20, none⟩) h.lt).trans h.c20, Nat.lt_of_lt_of_le h.lt hb.size⟩
theorem B21.low {B : Nat} (h : B21 w k de qu wi ti qa bu le pb pc pj pt nw la ea en ec ka kn kc tu fa fn fc ra rn rc tk ac dr) (hb : Below B w w') (hlt : k < B) : B21 w' k de qu wi ti qa bu le pb pc pj pt nw la ea en ec ka kn kc tu fa fn fc ra rn rc tk ac dr :=
  ⟨(hb.cell (p := ⟨k, 0, none⟩) hlt).trans h.c0, (hb.cell (p := ⟨k, 1, none⟩) hlt).trans h.c1, (hb.cell (p := ⟨k, 2, none⟩) hlt).trans h.c2, (hb.cell (p := ⟨k, 3, none⟩) hlt).trans h.c3, (hb.cell (p := ⟨k, 4, none⟩) hlt).trans h.c4, (hb.cell (p := ⟨k, 5, none⟩) hlt).trans h.c5, (hb.cell (p := ⟨k, 6, none⟩) hlt).trans h.c6, (hb.cell (p := ⟨k, 7, none⟩) hlt).trans h.c7, (hb.cell (p := ⟨k, 8, none⟩) hlt).trans h.c8, (hb.cell (p := ⟨k, 9, none⟩) hlt).trans h.c9, (hb.cell (p := ⟨k, 10, none⟩) hlt).trans h.c10, (hb.cell (p := ⟨k, 11, none⟩) hlt).trans h.c11, (hb.cell (p := ⟨k, 12, none⟩) hlt).trans h.c12, (hb.cell (p := ⟨k, 13, none⟩) hlt).trans h.c13, (hb.cell (p := ⟨k, 14, none⟩) hlt).trans h.c14, (hb.cell (p := ⟨k, 15, none⟩) hlt).trans h.c15, (hb.cell (p := ⟨k, 16, none⟩) hlt).trans h.c16, (hb.cell (p := ⟨k, 17, none⟩) hlt).trans h.c17, (hb.cell (p := ⟨k, 18, none⟩) hlt).trans h.c18, (hb.cell (p := ⟨k, 19, none⟩) hlt).trans h.c19, (hb.cell (p := ⟨k, 20, none⟩) hlt).trans h.c20, Nat.lt_of_lt_of_le h.lt hb.size⟩
end
set_option maxRecDepth 100000 in
set_option maxHeartbeats 2000000 in
theorem szGate_any (w : World) (de qu wi ti qa bu le pb pc pj pt nw la : Int) (ea : Option Addr) (en ec : Nat) (ka : Option Addr) (kn kc : Nat) (tu : Int) (fa : Option Addr) (fn fc : Nat) (ra : Option Addr) (rn rc : Nat) (tk ac dr : Int) (E : List Ev) (K : List Lk) (F R : List Int) (h : GIs w.heap.size w ea en ka kn fa fn ra rn E K F R) :
    Calls Tryz.prog 25 #[.agg #[.int .i64 de, .int .i64 qu, .int .i64 wi, .int .i64 ti, .int .i64 qa, .int .i64 bu, .int .i64 le, .int .i64 pb, .int .i64 pc, .int .i64 pj, .int .i64 pt, .int .i64 nw, .int .i64 la, .slice ea en ec, .slice ka kn kc, .int .i64 tu, .slice fa fn fc, .slice ra rn rc, .int .i64 tk, .int .i64 ac, .int .i64 dr], .int .i64 1048576] w fun e w' => (∃ z : Int, e = .returned (.int .i64 z) ∧ SzEnd z 1048576 (Small en kn fn rn K)) ∧ Below w.heap.size w w' := by
  have HB0 := Lib.hid (B21.new w de qu wi ti qa bu le pb pc pj pt nw la ea en ec ka kn kc tu fa fn fc ra rn rc tk ac dr 58)
  have HL0 := Lib.hid (bOne w (.cells #[.int .i64 de, .int .i64 qu, .int .i64 wi, .int .i64 ti, .int .i64 qa, .int .i64 bu, .int .i64 le, .int .i64 pb, .int .i64 pc, .int .i64 pj, .int .i64 pt, .int .i64 nw, .int .i64 la, .slice ea en ec, .slice ka kn kc, .int .i64 tu, .slice fa fn fc, .slice ra rn rc, .int .i64 tk, .int .i64 ac, .int .i64 dr] 58))
  have HT := Lib.hid h
  clear h
  go_enter Tryz.func25, Tryz.ntmps25
  go_wp2_with fail
  refine (szEvents_any ea en ec E 1048576 _ (HT.out.ev.here HL0.out) (by omega) (by omega)).mono ?_
  rintro e w1 ⟨⟨z1, rfl, h1⟩, hb1⟩
  have HL1 := Lib.hid (bAfter HL0.out hb1 HL0.out.size)
  have HB1 := Lib.hid (HB0.out.below hb1)
  clear hb1 HB0 HL0
  obtain ⟨c0, c1, c2, c3, c4, c5, c6, c7, c8, c9, c10, c11, c12, c13, c14, c15, c16, c17, c18, c19, c20, lt⟩ := HB1.out
  rcases h1 with rfl | ⟨hz1, hx1, he⟩
  · go_wp2_with fail
    go_ret
    exact ⟨⟨-1, rfl, .inl rfl⟩, HL1.out⟩
  have hn1 : ¬ z1 < 0 := by omega
  have H1 := Lib.hid (And.intro hx1 he)
  clear hx1 he
  go_wp2_with fail
  refine (szLinks_any ka kn kc K z1 _ (HT.out.lk.here HL1.out) hz1 H1.out.1).mono ?_
  rintro e w2 ⟨⟨z2, rfl, h2⟩, hb2⟩
  have HL2 := Lib.hid (bAfter HL1.out hb2 HL1.out.size)
  have HB2 := Lib.hid (HB1.out.below hb2)
  clear hb2 HB1 HL1 c0 c1 c2 c3 c4 c5 c6 c7 c8 c9 c10 c11 c12 c13 c14 c15 c16 c17 c18 c19 c20 lt
  obtain ⟨c0, c1, c2, c3, c4, c5, c6, c7, c8, c9, c10, c11, c12, c13, c14, c15, c16, c17, c18, c19, c20, lt⟩ := HB2.out
  rcases h2 with rfl | ⟨hz2, hx2, hk⟩
  · go_wp2_with fail
    go_ret
    exact ⟨⟨-1, rfl, .inl rfl⟩, HL2.out⟩
  have hn2 : ¬ z2 < 0 := by omega
  have H2 := Lib.hid (And.intro (Int.le_trans hx2 H1.out.1) hk)
  clear hx2 hk
  go_wp2_with fail
  refine (szInts_any fa fn fc z2 _ HT.out.fle hz2 H2.out.1).mono ?_
  rintro e w3 ⟨⟨z3, rfl, h3⟩, rfl⟩
  rcases h3 with rfl | ⟨hz3, hx3, hf⟩
  · go_wp2_with fail
    go_ret
    exact ⟨⟨-1, rfl, .inl rfl⟩, HL2.out⟩
  have hn3 : ¬ z3 < 0 := by omega
  have H3 := Lib.hid (And.intro (Int.le_trans hx3 H2.out.1) hf)
  clear hx3 hf
  go_wp2_with fail
  refine (szInts_any ra rn rc z3 _ HT.out.rle hz3 H3.out.1).mono ?_
  rintro e w3 ⟨⟨z4, rfl, h4⟩, rfl⟩
  rcases h4 with rfl | ⟨hz4, hx4, hr⟩
  · go_wp2_with fail
    go_ret
    exact ⟨⟨-1, rfl, .inl rfl⟩, HL2.out⟩
  have hn4 : ¬ z4 < 0 := by omega
  have H4 := Lib.hid (And.intro (Int.le_trans hx4 H3.out.1) hr)
  clear hx4 hr
  go_wp2_with fail
  go_ret
  exact ⟨⟨z4, rfl, .inr ⟨hz4, H4.out.1, H1.out.2, H2.out.2.1, H2.out.2.2, H3.out.2, H4.out.2⟩⟩, HL2.out⟩

end Go.Proofs.YtkndpkingmemoaaGreatDoor.Gat
namespace Go.Proofs.YtkndpkingmemoaaGreatDoor.Gat
open Go.ChangeShapes Go.WideShapes Go.RowKit Go.Deep
open Lnk (num_at bool_at open_flies add_none IIs)
open Frm (some_at)
set_option linter.unusedVariables false

theorem cellsInt : Tryz.prog.cellsOf 3 = 1 := by kernel_rfl
theorem cellsPol : Tryz.prog.cellsOf 52 = 4 := by kernel_rfl
theorem cellsCfg : Tryz.prog.cellsOf 54 = 11 := by kernel_rfl
theorem cellsGate : Tryz.prog.cellsOf 58 = 21 := by kernel_rfl
theorem cellsEvent : Tryz.prog.cellsOf 158 = 9 := by kernel_rfl
theorem cellsLink : Tryz.prog.cellsOf 162 = 4 := by kernel_rfl
theorem cellsEs : Tryz.prog.cellsOf 55 = 1 := by kernel_rfl
theorem cellsLs : Tryz.prog.cellsOf 56 = 1 := by kernel_rfl
theorem cellsIs : Tryz.prog.cellsOf 30 = 1 := by kernel_rfl
theorem cellsStr : Tryz.prog.cellsOf 9 = 1 := by kernel_rfl
theorem cellsBool : Tryz.prog.cellsOf 4 = 1 := by kernel_rfl
theorem cellsFs : Tryz.prog.cellsOf 160 = 1 := by kernel_rfl

theorem list11 {α : Type} {cs : List α} (h : cs.length = 11) : ∃ x0 x1 x2 x3 x4 x5 x6 x7 x8 x9 x10, cs = [x0, x1, x2, x3, x4, x5, x6, x7, x8, x9, x10] := by
  match cs, h with
  | [x0, x1, x2, x3, x4, x5, x6, x7, x8, x9, x10], _ => exact ⟨x0, x1, x2, x3, x4, x5, x6, x7, x8, x9, x10, rfl⟩
theorem list21 {α : Type} {cs : List α} (h : cs.length = 21) : ∃ x0 x1 x2 x3 x4 x5 x6 x7 x8 x9 x10 x11 x12 x13 x14 x15 x16 x17 x18 x19 x20, cs = [x0, x1, x2, x3, x4, x5, x6, x7, x8, x9, x10, x11, x12, x13, x14, x15, x16, x17, x18, x19, x20] := by
  match cs, h with
  | [x0, x1, x2, x3, x4, x5, x6, x7, x8, x9, x10, x11, x12, x13, x14, x15, x16, x17, x18, x19, x20], _ => exact ⟨x0, x1, x2, x3, x4, x5, x6, x7, x8, x9, x10, x11, x12, x13, x14, x15, x16, x17, x18, x19, x20, rfl⟩
theorem list9 {α : Type} {cs : List α} (h : cs.length = 9) : ∃ x0 x1 x2 x3 x4 x5 x6 x7 x8, cs = [x0, x1, x2, x3, x4, x5, x6, x7, x8] := by
  match cs, h with
  | [x0, x1, x2, x3, x4, x5, x6, x7, x8], _ => exact ⟨x0, x1, x2, x3, x4, x5, x6, x7, x8, rfl⟩
theorem list4 {α : Type} {cs : List α} (h : cs.length = 4) : ∃ x0 x1 x2 x3, cs = [x0, x1, x2, x3] := by
  match cs, h with
  | [x0, x1, x2, x3], _ => exact ⟨x0, x1, x2, x3, rfl⟩
instance : Inhabited Ev := ⟨ev0⟩
instance : Inhabited Lr := ⟨lr0⟩
instance : Inhabited Lk := ⟨lk0⟩
section
variable {H : Type} {enc : TypeId × Value → H} {w : World} {base : Nat} {spare : Nat → Bool} {held : Bool}
set_option maxRecDepth 100000 in
/-- eleven cells of a config -/
theorem cfg_at {fuel : Nat} {cs : List Value} {x : DataW H × List MemPlace} (h : DataW.trod enc Tryz.prog w base spare held fuel 54 cs = some x) :
    ∃ (de qu wi ti qa bu le pb pc pj pt : Int), cs = [.int .i64 de, .int .i64 qu, .int .i64 wi, .int .i64 ti, .int .i64 qa, .int .i64 bu, .int .i64 le, .int .i64 pb, .int .i64 pc, .int .i64 pj, .int .i64 pt] := by
  obtain ⟨xs, n, _, _, hl, hxl, hf⟩ := DataW.trod_struct Tryz.underlying54 h
  rw [cellsCfg] at hl
  obtain ⟨x0, x1, x2, x3, x4, x5, x6, x7, x8, x9, x10, rfl⟩ := list11 hl
  have g0 := hf 0 _ rfl
  change DataW.trod enc Tryz.prog w base spare held n 3 (([x0, x1, x2, x3, x4, x5, x6, x7, x8, x9, x10].drop 0).take (Tryz.prog.cellsOf 3)) = xs[0]? at g0
  have g1 := hf 1 _ rfl
  change DataW.trod enc Tryz.prog w base spare held n 3 (([x0, x1, x2, x3, x4, x5, x6, x7, x8, x9, x10].drop 1).take (Tryz.prog.cellsOf 3)) = xs[1]? at g1
  have g2 := hf 2 _ rfl
  change DataW.trod enc Tryz.prog w base spare held n 3 (([x0, x1, x2, x3, x4, x5, x6, x7, x8, x9, x10].drop 2).take (Tryz.prog.cellsOf 3)) = xs[2]? at g2
  have g3 := hf 3 _ rfl
  change DataW.trod enc Tryz.prog w base spare held n 3 (([x0, x1, x2, x3, x4, x5, x6, x7, x8, x9, x10].drop 3).take (Tryz.prog.cellsOf 3)) = xs[3]? at g3
  have g4 := hf 4 _ rfl
  change DataW.trod enc Tryz.prog w base spare held n 3 (([x0, x1, x2, x3, x4, x5, x6, x7, x8, x9, x10].drop 4).take (Tryz.prog.cellsOf 3)) = xs[4]? at g4
  have g5 := hf 5 _ rfl
  change DataW.trod enc Tryz.prog w base spare held n 3 (([x0, x1, x2, x3, x4, x5, x6, x7, x8, x9, x10].drop 5).take (Tryz.prog.cellsOf 3)) = xs[5]? at g5
  have g6 := hf 6 _ rfl
  change DataW.trod enc Tryz.prog w base spare held n 3 (([x0, x1, x2, x3, x4, x5, x6, x7, x8, x9, x10].drop 6).take (Tryz.prog.cellsOf 3)) = xs[6]? at g6
  have g7 := hf 7 _ rfl
  change DataW.trod enc Tryz.prog w base spare held n 52 (([x0, x1, x2, x3, x4, x5, x6, x7, x8, x9, x10].drop 7).take (Tryz.prog.cellsOf 52)) = xs[7]? at g7
  simp only [cellsInt, cellsPol, List.drop_zero, List.drop_succ_cons, List.take_succ_cons, List.take_zero] at g0 g1 g2 g3 g4 g5 g6 g7
  obtain ⟨y0, e0⟩ := some_at hxl (show 0 < 8 by omega)
  rw [e0] at g0
  obtain ⟨de, rfl, _⟩ := num_at Tryz.underlying3 g0
  obtain ⟨y1, e1⟩ := some_at hxl (show 1 < 8 by omega)
  rw [e1] at g1
  obtain ⟨qu, rfl, _⟩ := num_at Tryz.underlying3 g1
  obtain ⟨y2, e2⟩ := some_at hxl (show 2 < 8 by omega)
  rw [e2] at g2
  obtain ⟨wi, rfl, _⟩ := num_at Tryz.underlying3 g2
  obtain ⟨y3, e3⟩ := some_at hxl (show 3 < 8 by omega)
  rw [e3] at g3
  obtain ⟨ti, rfl, _⟩ := num_at Tryz.underlying3 g3
  obtain ⟨y4, e4⟩ := some_at hxl (show 4 < 8 by omega)
  rw [e4] at g4
  obtain ⟨qa, rfl, _⟩ := num_at Tryz.underlying3 g4
  obtain ⟨y5, e5⟩ := some_at hxl (show 5 < 8 by omega)
  rw [e5] at g5
  obtain ⟨bu, rfl, _⟩ := num_at Tryz.underlying3 g5
  obtain ⟨y6, e6⟩ := some_at hxl (show 6 < 8 by omega)
  rw [e6] at g6
  obtain ⟨le, rfl, _⟩ := num_at Tryz.underlying3 g6
  obtain ⟨y7, e7⟩ := some_at hxl (show 7 < 8 by omega)
  rw [e7] at g7
  obtain ⟨ys, m, _, _, _, hyl, hp⟩ := DataW.trod_struct Tryz.underlying52 g7
  have p0 := hp 0 _ rfl
  change DataW.trod enc Tryz.prog w base spare held m 3 (([x7, x8, x9, x10].drop 0).take (Tryz.prog.cellsOf 3)) = ys[0]? at p0
  have p1 := hp 1 _ rfl
  change DataW.trod enc Tryz.prog w base spare held m 3 (([x7, x8, x9, x10].drop 1).take (Tryz.prog.cellsOf 3)) = ys[1]? at p1
  have p2 := hp 2 _ rfl
  change DataW.trod enc Tryz.prog w base spare held m 3 (([x7, x8, x9, x10].drop 2).take (Tryz.prog.cellsOf 3)) = ys[2]? at p2
  have p3 := hp 3 _ rfl
  change DataW.trod enc Tryz.prog w base spare held m 3 (([x7, x8, x9, x10].drop 3).take (Tryz.prog.cellsOf 3)) = ys[3]? at p3
  simp only [cellsInt, List.drop_zero, List.drop_succ_cons, List.take_succ_cons, List.take_zero] at p0 p1 p2 p3
  obtain ⟨z0, q0⟩ := some_at hyl (show 0 < 4 by omega)
  rw [q0] at p0
  obtain ⟨pb, rfl, _⟩ := num_at Tryz.underlying3 p0
  obtain ⟨z1, q1⟩ := some_at hyl (show 1 < 4 by omega)
  rw [q1] at p1
  obtain ⟨pc, rfl, _⟩ := num_at Tryz.underlying3 p1
  obtain ⟨z2, q2⟩ := some_at hyl (show 2 < 4 by omega)
  rw [q2] at p2
  obtain ⟨pj, rfl, _⟩ := num_at Tryz.underlying3 p2
  obtain ⟨z3, q3⟩ := some_at hyl (show 3 < 4 by omega)
  rw [q3] at p3
  obtain ⟨pt, rfl, _⟩ := num_at Tryz.underlying3 p3
  exact ⟨de, qu, wi, ti, qa, bu, le, pb, pc, pj, pt, rfl⟩
set_option maxRecDepth 100000 in
theorem open_events {fuel : Nat} {v : Value} {x : DataW H × List MemPlace} (h : DataW.trod enc Tryz.prog w base spare held fuel 55 [v] = some x) :
    ∃ a len cap l, v = .slice a len cap ∧ EIs w.heap.size w a len l ∧ ∀ e ∈ l, (Lit.int .i64 e.i).wf = true := by
  rcases open_slice Tryz.underlying55 h with ⟨hcs, _⟩ | ⟨a, len, cap, m, n, D, Pl, hcs, hb, hl, hm, hmm, hx, hi⟩
  · simp only [List.cons.injEq, and_true] at hcs
    exact ⟨none, 0, 0, [], hcs, EIs.nil _ _ _, fun e he => by cases he⟩
  · simp only [List.cons.injEq, and_true] at hcs
    have hlm : len ≤ m := by rw [hmm]; split <;> omega
    have each : ∀ i, i < len → ∃ q : Ev, (∀ k u, q.vals[k]? = some u → w.cell? (a.add (i * 9 + k)) = some u) ∧ q.b.size ≤ maxLen ∧ (Lit.int .i64 q.i).wf = true := by
      intro i hil
      obtain ⟨cs', h1, h2⟩ := hi i (by omega)
      rw [cellsEvent] at h1
      obtain ⟨_, hlen, hcell⟩ := World.cells?_some h1
      obtain ⟨xs, k, hk, hxy, _, hxl, hf⟩ := DataW.trod_struct Tryz.underlying158 h2
      obtain ⟨x0, x1, x2, x3, x4, x5, x6, x7, x8, rfl⟩ := list9 hlen
      have g0 := hf 0 _ rfl
      change DataW.trod enc Tryz.prog w base spare held k 3 (([x0, x1, x2, x3, x4, x5, x6, x7, x8].drop 0).take (Tryz.prog.cellsOf 3)) = xs[0]? at g0
      have g1 := hf 1 _ rfl
      change DataW.trod enc Tryz.prog w base spare held k 3 (([x0, x1, x2, x3, x4, x5, x6, x7, x8].drop 1).take (Tryz.prog.cellsOf 3)) = xs[1]? at g1
      have g2 := hf 2 _ rfl
      change DataW.trod enc Tryz.prog w base spare held k 3 (([x0, x1, x2, x3, x4, x5, x6, x7, x8].drop 2).take (Tryz.prog.cellsOf 3)) = xs[2]? at g2
      have g3 := hf 3 _ rfl
      change DataW.trod enc Tryz.prog w base spare held k 9 (([x0, x1, x2, x3, x4, x5, x6, x7, x8].drop 3).take (Tryz.prog.cellsOf 9)) = xs[3]? at g3
      have g4 := hf 4 _ rfl
      change DataW.trod enc Tryz.prog w base spare held k 3 (([x0, x1, x2, x3, x4, x5, x6, x7, x8].drop 4).take (Tryz.prog.cellsOf 3)) = xs[4]? at g4
      have g5 := hf 5 _ rfl
      change DataW.trod enc Tryz.prog w base spare held k 3 (([x0, x1, x2, x3, x4, x5, x6, x7, x8].drop 5).take (Tryz.prog.cellsOf 3)) = xs[5]? at g5
      have g6 := hf 6 _ rfl
      change DataW.trod enc Tryz.prog w base spare held k 3 (([x0, x1, x2, x3, x4, x5, x6, x7, x8].drop 6).take (Tryz.prog.cellsOf 3)) = xs[6]? at g6
      have g7 := hf 7 _ rfl
      change DataW.trod enc Tryz.prog w base spare held k 3 (([x0, x1, x2, x3, x4, x5, x6, x7, x8].drop 7).take (Tryz.prog.cellsOf 3)) = xs[7]? at g7
      have g8 := hf 8 _ rfl
      change DataW.trod enc Tryz.prog w base spare held k 3 (([x0, x1, x2, x3, x4, x5, x6, x7, x8].drop 8).take (Tryz.prog.cellsOf 3)) = xs[8]? at g8
      simp only [cellsInt, cellsStr, List.drop_zero, List.drop_succ_cons, List.take_succ_cons, List.take_zero] at g0 g1 g2 g3 g4 g5 g6 g7 g8
      obtain ⟨y0, e0⟩ := some_at hxl (show 0 < 9 by omega)
      rw [e0] at g0
      obtain ⟨i, rfl, w0⟩ := num_at Tryz.underlying3 g0
      obtain ⟨y1, e1⟩ := some_at hxl (show 1 < 9 by omega)
      rw [e1] at g1
      obtain ⟨d, rfl, w1⟩ := num_at Tryz.underlying3 g1
      obtain ⟨y2, e2⟩ := some_at hxl (show 2 < 9 by omega)
      rw [e2] at g2
      obtain ⟨c, rfl, w2⟩ := num_at Tryz.underlying3 g2
      obtain ⟨y3, e3⟩ := some_at hxl (show 3 < 9 by omega)
      rw [e3] at g3
      obtain ⟨bd, eb, _, hbd⟩ := DataW.trod_string Tryz.underlying9 g3
      simp only [List.cons.injEq, and_true] at eb
      subst eb
      obtain ⟨y4, e4⟩ := some_at hxl (show 4 < 9 by omega)
      rw [e4] at g4
      obtain ⟨at_, rfl, w4⟩ := num_at Tryz.underlying3 g4
      obtain ⟨y5, e5⟩ := some_at hxl (show 5 < 9 by omega)
      rw [e5] at g5
      obtain ⟨t, rfl, w5⟩ := num_at Tryz.underlying3 g5
      obtain ⟨y6, e6⟩ := some_at hxl (show 6 < 9 by omega)
      rw [e6] at g6
      obtain ⟨r, rfl, w6⟩ := num_at Tryz.underlying3 g6
      obtain ⟨y7, e7⟩ := some_at hxl (show 7 < 9 by omega)
      rw [e7] at g7
      obtain ⟨n, rfl, w7⟩ := num_at Tryz.underlying3 g7
      obtain ⟨y8, e8⟩ := some_at hxl (show 8 < 9 by omega)
      rw [e8] at g8
      obtain ⟨s, rfl, w8⟩ := num_at Tryz.underlying3 g8
      refine ⟨⟨i, d, c, bd, at_, t, r, n, s⟩, fun k u hu => ?_, hbd, w0⟩
      have hk9 : k < 9 := (List.getElem?_eq_some_iff.1 hu).1
      have := hcell k (by omega)
      rw [add_add] at this
      rw [this]
      exact hu
    obtain ⟨q, hq⟩ := choose_lt each
    have hmem : ∀ e ∈ (List.range len).map q, e.b.size ≤ maxLen ∧ (Lit.int .i64 e.i).wf = true := by
      intro e he
      obtain ⟨i, hi, rfl⟩ := List.mem_map.1 he
      exact (hq i (List.mem_range.1 hi)).2
    refine ⟨some a, len, cap, (List.range len).map q, hcs, ⟨⟨by simp, by omega, fun k hk => ?_⟩, fun e he => (hmem e he).1⟩, fun e he => (hmem e he).2⟩
    simp at hk
    obtain ⟨b, off, spot⟩ := a
    have h0 := (hq k hk).1 0 _ rfl
    have hs : spot = none := by
      have := (hq 0 (by omega)).1 0 _ rfl
      exact World.cell?_spot (by simpa using this)
    subst hs
    rw [add_none] at h0
    refine ⟨b, off, rfl, World.block_lt_of_cell? w _ h0, fun i u hu => ?_⟩
    have := (hq k hk).1 i u (by simpa [evS] using hu)
    rw [add_none] at this
    simpa [evS, Nat.add_assoc] using this

theorem open_links {fuel : Nat} {v : Value} {x : DataW H × List MemPlace} (h : DataW.trod enc Tryz.prog w base spare held fuel 56 [v] = some x) :
    ∃ a len cap l, v = .slice a len cap ∧ LIs w.heap.size w a len l := by
  rcases open_slice Tryz.underlying56 h with ⟨hcs, _⟩ | ⟨a, len, cap, m, n, D, Pl, hcs, hb, hl, hm, hmm, hx, hi⟩
  · simp only [List.cons.injEq, and_true] at hcs
    exact ⟨none, 0, 0, [], hcs, LIs.nil _ _ _⟩
  · simp only [List.cons.injEq, and_true] at hcs
    have hlm : len ≤ m := by rw [hmm]; split <;> omega
    have each : ∀ i, i < len → ∃ q : Lr × Lk, (∀ k u, q.1.vals[k]? = some u → w.cell? (a.add (i * 4 + k)) = some u) ∧ LrIs w.heap.size w q.1 q.2 := by
      intro i hil
      obtain ⟨cs', h1, h2⟩ := hi i (by omega)
      rw [cellsLink] at h1
      obtain ⟨_, hlen, hcell⟩ := World.cells?_some h1
      obtain ⟨xs, k, hk, hxy, _, hxl, hf⟩ := DataW.trod_struct Tryz.underlying162 h2
      obtain ⟨x0, x1, x2, x3, rfl⟩ := list4 hlen
      have g0 := hf 0 _ rfl
      change DataW.trod enc Tryz.prog w base spare held k 4 (([x0, x1, x2, x3].drop 0).take (Tryz.prog.cellsOf 4)) = xs[0]? at g0
      have g1 := hf 1 _ rfl
      change DataW.trod enc Tryz.prog w base spare held k 3 (([x0, x1, x2, x3].drop 1).take (Tryz.prog.cellsOf 3)) = xs[1]? at g1
      have g2 := hf 2 _ rfl
      change DataW.trod enc Tryz.prog w base spare held k 3 (([x0, x1, x2, x3].drop 2).take (Tryz.prog.cellsOf 3)) = xs[2]? at g2
      have g3 := hf 3 _ rfl
      change DataW.trod enc Tryz.prog w base spare held k 160 (([x0, x1, x2, x3].drop 3).take (Tryz.prog.cellsOf 160)) = xs[3]? at g3
      simp only [cellsInt, cellsBool, cellsFs, List.drop_zero, List.drop_succ_cons, List.take_succ_cons, List.take_zero] at g0 g1 g2 g3
      obtain ⟨y0, e0⟩ := some_at hxl (show 0 < 4 by omega)
      rw [e0] at g0
      obtain ⟨y1, e1⟩ := some_at hxl (show 1 < 4 by omega)
      rw [e1] at g1
      obtain ⟨y2, e2⟩ := some_at hxl (show 2 < 4 by omega)
      rw [e2] at g2
      obtain ⟨y3, e3⟩ := some_at hxl (show 3 < 4 by omega)
      rw [e3] at g3
      obtain ⟨up, rfl⟩ := bool_at Tryz.underlying4 g0
      obtain ⟨ep, rfl, w1⟩ := num_at Tryz.underlying3 g1
      obtain ⟨sq, rfl, w2⟩ := num_at Tryz.underlying3 g2
      obtain ⟨fa, fl, fc, y, rfl, hy⟩ := open_flies Tryz.underlying160 Tryz.underlying218 (by kernel_rfl) rfl rfl rfl Tryz.underlying3 Tryz.underlying3 Tryz.underlying3 (by kernel_rfl) (by kernel_rfl) (by kernel_rfl) g3
      refine ⟨(⟨up, ep, sq, .slice fa fl fc⟩, ⟨up, ep, sq, y⟩), fun k u hu => ?_, rfl, rfl, rfl, fa, fl, fc, rfl, hy⟩
      have hk9 : k < 4 := (List.getElem?_eq_some_iff.1 hu).1
      have := hcell k (by omega)
      rw [add_add] at this
      rw [this]
      exact hu
    obtain ⟨q, hq⟩ := choose_lt each
    refine ⟨some a, len, cap, (List.range len).map (fun i => (q i).2), hcs, ⟨(List.range len).map (fun i => (q i).1), ⟨by simp, by omega, fun k hk => ?_⟩, by simp, fun k hk hk' => ?_⟩⟩
    · simp at hk
      obtain ⟨b, off, spot⟩ := a
      have h0 := (hq k hk).1 0 _ rfl
      have hs : spot = none := by
        have := (hq 0 (by omega)).1 0 _ rfl
        exact World.cell?_spot (by simpa using this)
      subst hs
      rw [add_none] at h0
      refine ⟨b, off, rfl, World.block_lt_of_cell? w _ h0, fun i u hu => ?_⟩
      have := (hq k hk).1 i u (by simpa [lrS] using hu)
      rw [add_none] at this
      simpa [lrS, Nat.add_assoc] using this
    · simp at hk
      simpa using (hq k hk).2
theorem open_introw {fuel : Nat} {v : Value} {x : DataW H × List MemPlace} (h : DataW.trod enc Tryz.prog w base spare held fuel 30 [v] = some x) :
    ∃ a len cap l, v = .slice a len cap ∧ IIs w.heap.size w a len l ∧ len ≤ maxLen ∧ ∀ x ∈ l, (Lit.int .i64 x).wf = true := by
  rcases open_ints Tryz.underlying30 Tryz.underlying3 cellsInt h with ⟨hcs, _⟩ | ⟨a, len, cap, zs, hcs, hb, hl, hm, hz, _, hcell, hwz⟩
  · simp only [List.cons.injEq, and_true] at hcs
    exact ⟨none, 0, 0, [], hcs, ⟨rfl, fun k hk => by simp at hk⟩, by unfold maxLen; omega, fun e he => by cases he⟩
  · simp only [List.cons.injEq, and_true] at hcs
    have hlz : len ≤ zs.length := by rw [hz]; split <;> omega
    refine ⟨some a, len, cap, zs.take len, hcs, ⟨by simp; omega, fun k hk => ?_⟩, by omega, fun x hx => hwz x (List.mem_of_mem_take hx)⟩
    have hk2 : k < len := by have := hk; simp at this; omega
    obtain ⟨b, off, spot⟩ := a
    have hc := hcell k (by omega)
    have hs : spot = none := World.cell?_spot (by simpa using hcell 0 (by omega))
    subst hs
    rw [add_none] at hc
    refine ⟨b, off, rfl, World.block_lt_of_cell? w _ hc, ?_⟩
    rw [hc, List.getElem_take, List.getD_eq_getElem?_getD, List.getElem?_eq_getElem (by omega)]
    rfl

set_option maxRecDepth 100000 in
theorem open_gate {r : Reach} {b0 : Nat} {v : Value} {d : DataW H} {p : List MemPlace} (hv : Value.okWide Tryz.prog w r b0 58 v) (h : DataW.Trod enc Tryz.prog w base spare held 58 v d p) :
    ∃ (de qu wi ti qa bu le pb pc pj pt nw la : Int) (ea : Option Addr) (en ec : Nat) (ka : Option Addr) (kn kc : Nat) (tu : Int) (fa : Option Addr) (fn fc : Nat) (ra : Option Addr) (rn rc : Nat) (tk ac dr : Int) (E : List Ev) (K : List Lk) (F R : List Int), v = .agg #[.int .i64 de, .int .i64 qu, .int .i64 wi, .int .i64 ti, .int .i64 qa, .int .i64 bu, .int .i64 le, .int .i64 pb, .int .i64 pc, .int .i64 pj, .int .i64 pt, .int .i64 nw, .int .i64 la, .slice ea en ec, .slice ka kn kc, .int .i64 tu, .slice fa fn fc, .slice ra rn rc, .int .i64 tk, .int .i64 ac, .int .i64 dr] ∧ GIs w.heap.size w ea en ka kn fa fn ra rn E K F R ∧ (∀ e ∈ E, (Lit.int .i64 e.i).wf = true) ∧ (∀ x ∈ R, (Lit.int .i64 x).wf = true) := by
  obtain ⟨cs, rfl, hsz⟩ := okWide_struct Tryz.underlying58 hv
  obtain ⟨fuel, hf0⟩ := h
  obtain ⟨xs, n, _, _, hl, hxl, hf⟩ := DataW.trod_struct Tryz.underlying58 hf0
  rw [cellsGate] at hl
  obtain ⟨x0, x1, x2, x3, x4, x5, x6, x7, x8, x9, x10, x11, x12, x13, x14, x15, x16, x17, x18, x19, x20, hcs⟩ := list21 hl
  rw [hcs] at hf
  have g0 := hf 0 _ rfl
  change DataW.trod enc Tryz.prog w base spare held n 54 (([x0, x1, x2, x3, x4, x5, x6, x7, x8, x9, x10, x11, x12, x13, x14, x15, x16, x17, x18, x19, x20].drop 0).take (Tryz.prog.cellsOf 54)) = xs[0]? at g0
  have g1 := hf 1 _ rfl
  change DataW.trod enc Tryz.prog w base spare held n 3 (([x0, x1, x2, x3, x4, x5, x6, x7, x8, x9, x10, x11, x12, x13, x14, x15, x16, x17, x18, x19, x20].drop 11).take (Tryz.prog.cellsOf 3)) = xs[1]? at g1
  have g2 := hf 2 _ rfl
  change DataW.trod enc Tryz.prog w base spare held n 3 (([x0, x1, x2, x3, x4, x5, x6, x7, x8, x9, x10, x11, x12, x13, x14, x15, x16, x17, x18, x19, x20].drop 12).take (Tryz.prog.cellsOf 3)) = xs[2]? at g2
  have g3 := hf 3 _ rfl
  change DataW.trod enc Tryz.prog w base spare held n 55 (([x0, x1, x2, x3, x4, x5, x6, x7, x8, x9, x10, x11, x12, x13, x14, x15, x16, x17, x18, x19, x20].drop 13).take (Tryz.prog.cellsOf 55)) = xs[3]? at g3
  have g4 := hf 4 _ rfl
  change DataW.trod enc Tryz.prog w base spare held n 56 (([x0, x1, x2, x3, x4, x5, x6, x7, x8, x9, x10, x11, x12, x13, x14, x15, x16, x17, x18, x19, x20].drop 14).take (Tryz.prog.cellsOf 56)) = xs[4]? at g4
  have g5 := hf 5 _ rfl
  change DataW.trod enc Tryz.prog w base spare held n 3 (([x0, x1, x2, x3, x4, x5, x6, x7, x8, x9, x10, x11, x12, x13, x14, x15, x16, x17, x18, x19, x20].drop 15).take (Tryz.prog.cellsOf 3)) = xs[5]? at g5
  have g6 := hf 6 _ rfl
  change DataW.trod enc Tryz.prog w base spare held n 30 (([x0, x1, x2, x3, x4, x5, x6, x7, x8, x9, x10, x11, x12, x13, x14, x15, x16, x17, x18, x19, x20].drop 16).take (Tryz.prog.cellsOf 30)) = xs[6]? at g6
  have g7 := hf 7 _ rfl
  change DataW.trod enc Tryz.prog w base spare held n 30 (([x0, x1, x2, x3, x4, x5, x6, x7, x8, x9, x10, x11, x12, x13, x14, x15, x16, x17, x18, x19, x20].drop 17).take (Tryz.prog.cellsOf 30)) = xs[7]? at g7
  have g8 := hf 8 _ rfl
  change DataW.trod enc Tryz.prog w base spare held n 3 (([x0, x1, x2, x3, x4, x5, x6, x7, x8, x9, x10, x11, x12, x13, x14, x15, x16, x17, x18, x19, x20].drop 18).take (Tryz.prog.cellsOf 3)) = xs[8]? at g8
  have g9 := hf 9 _ rfl
  change DataW.trod enc Tryz.prog w base spare held n 3 (([x0, x1, x2, x3, x4, x5, x6, x7, x8, x9, x10, x11, x12, x13, x14, x15, x16, x17, x18, x19, x20].drop 19).take (Tryz.prog.cellsOf 3)) = xs[9]? at g9
  have g10 := hf 10 _ rfl
  change DataW.trod enc Tryz.prog w base spare held n 3 (([x0, x1, x2, x3, x4, x5, x6, x7, x8, x9, x10, x11, x12, x13, x14, x15, x16, x17, x18, x19, x20].drop 20).take (Tryz.prog.cellsOf 3)) = xs[10]? at g10
  simp only [cellsInt, cellsCfg, cellsEs, cellsLs, cellsIs, List.drop_zero, List.drop_succ_cons, List.take_succ_cons, List.take_zero] at g0 g1 g2 g3 g4 g5 g6 g7 g8 g9 g10
  obtain ⟨y0, e0⟩ := some_at hxl (show 0 < 11 by omega)
  rw [e0] at g0
  obtain ⟨y1, e1⟩ := some_at hxl (show 1 < 11 by omega)
  rw [e1] at g1
  obtain ⟨y2, e2⟩ := some_at hxl (show 2 < 11 by omega)
  rw [e2] at g2
  obtain ⟨y3, e3⟩ := some_at hxl (show 3 < 11 by omega)
  rw [e3] at g3
  obtain ⟨y4, e4⟩ := some_at hxl (show 4 < 11 by omega)
  rw [e4] at g4
  obtain ⟨y5, e5⟩ := some_at hxl (show 5 < 11 by omega)
  rw [e5] at g5
  obtain ⟨y6, e6⟩ := some_at hxl (show 6 < 11 by omega)
  rw [e6] at g6
  obtain ⟨y7, e7⟩ := some_at hxl (show 7 < 11 by omega)
  rw [e7] at g7
  obtain ⟨y8, e8⟩ := some_at hxl (show 8 < 11 by omega)
  rw [e8] at g8
  obtain ⟨y9, e9⟩ := some_at hxl (show 9 < 11 by omega)
  rw [e9] at g9
  obtain ⟨y10, e10⟩ := some_at hxl (show 10 < 11 by omega)
  rw [e10] at g10
  obtain ⟨de, qu, wi, ti, qa, bu, le, pb, pc, pj, pt, ecf⟩ := cfg_at g0
  simp only [List.cons.injEq, and_true] at ecf
  obtain ⟨rfl, rfl, rfl, rfl, rfl, rfl, rfl, rfl, rfl, rfl, rfl⟩ := ecf
  obtain ⟨nw, rfl, _⟩ := num_at Tryz.underlying3 g1
  obtain ⟨la, rfl, _⟩ := num_at Tryz.underlying3 g2
  obtain ⟨ea, en, ec, E, rfl, hE, hEw⟩ := open_events g3
  obtain ⟨ka, kn, kc, K, rfl, hK⟩ := open_links g4
  obtain ⟨tu, rfl, _⟩ := num_at Tryz.underlying3 g5
  obtain ⟨fa, fn, fc, F, rfl, hF, hFl, _⟩ := open_introw g6
  obtain ⟨ra, rn, rc, R, rfl, hR, hRl, hRw⟩ := open_introw g7
  obtain ⟨tk, rfl, _⟩ := num_at Tryz.underlying3 g8
  obtain ⟨ac, rfl, _⟩ := num_at Tryz.underlying3 g9
  obtain ⟨dr, rfl, _⟩ := num_at Tryz.underlying3 g10
  refine ⟨de, qu, wi, ti, qa, bu, le, pb, pc, pj, pt, nw, la, ea, en, ec, ka, kn, kc, tu, fa, fn, fc, ra, rn, rc, tk, ac, dr, E, K, F, R, ?_, ⟨hE, hK, hF, hR, hFl, hRl⟩, hEw, hRw⟩
  have : cs = (#[.int .i64 de, .int .i64 qu, .int .i64 wi, .int .i64 ti, .int .i64 qa, .int .i64 bu, .int .i64 le, .int .i64 pb, .int .i64 pc, .int .i64 pj, .int .i64 pt, .int .i64 nw, .int .i64 la, .slice ea en ec, .slice ka kn kc, .int .i64 tu, .slice fa fn fc, .slice ra rn rc, .int .i64 tk, .int .i64 ac, .int .i64 dr] : Array Value) := by
    apply Array.ext'
    simpa [Value.cells] using hcs
  rw [this]
end
end Go.Proofs.YtkndpkingmemoaaGreatDoor.Gat
