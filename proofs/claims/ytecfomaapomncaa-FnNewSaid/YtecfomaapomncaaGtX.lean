/-
  Rows of messages, of links and of ints: copied and compared.
-/
import Derived.Test.YtecfomaapomncaaGtS
import Derived.Test.YtecfomaapomncaaLkI
namespace Go.Proofs.Ytecfomaapomncaa.Gat
open Go.RowKit
open Lnk (bOne bAfter IOwn IIs below_keep below_drew')
set_option linter.unusedVariables false

theorem infoEvent : (Try.prog.info? 65).map (fun i => (i.zero, i.size, i.bytes)) = some (some (.agg #[.int .i64 0, .int .i64 0, .int .i64 0, .string ByteArray.empty, .int .i64 0, .int .i64 0, .int .i64 0, .int .i64 0, .int .i64 0]), 9, 80) := by kernel_rfl
theorem infoLink : (Try.prog.info? 42).map (fun i => (i.zero, i.size, i.bytes)) = some (some (.agg #[.bool false, .int .i64 0, .int .i64 0, .slice none 0 0]), 4, 48) := by kernel_rfl
theorem infoInt' : (Try.prog.info? 3).map (fun i => (i.zero, i.size, i.bytes)) = some (some (.int .i64 0), 1, 8) := by kernel_rfl

/-- a slice of structs that was handed back: new, and of the call's own -/
def RowEnd {α : Type} (S : Shp α) (E : TypeId) (w w' : World) (l : List α) (e : Ending) : Prop :=
  (∃ a cap, e = .returned (.slice a l.length cap) ∧ ROwn S w.heap.size w' E (.slice a l.length cap) l) ∧ Below w.heap.size w w'
/-- the same of ints -/
def IntEnd (w w' : World) (l : List Int) (e : Ending) : Prop :=
  (∃ a cap, e = .returned (.slice a l.length cap) ∧ IOwn w.heap.size w' (.slice a l.length cap) l) ∧ Below w.heap.size w w'
/-- a row of links that was handed back -/
def LinksEnd (w w' : World) (l : List Lk) (e : Ending) : Prop :=
  (∃ a cap, e = .returned (.slice a l.length cap) ∧ Fresh w.heap.size w' (fun w => LIs w.heap.size w a l.length l)) ∧ Below w.heap.size w w'

theorem eown_at {B : Nat} {w : World} {E : TypeId} {g n' cap : Nat} {l : List Ev} (h : ROwn evS B w E (.slice (some ⟨g, 0, none⟩) n' cap) l) (k : Nat) (hk : k < l.length) :
    (∃ i d c bd at_ t r n s, C9 w g (k * 9) i d c bd at_ t r n s) ∧ w.frozen? ⟨g, k * 9, none⟩ = false ∧ w.frozen? ⟨g, k * 9 + 1, none⟩ = false ∧ w.frozen? ⟨g, k * 9 + 2, none⟩ = false ∧ w.frozen? ⟨g, k * 9 + 3, none⟩ = false ∧ w.frozen? ⟨g, k * 9 + 4, none⟩ = false ∧ w.frozen? ⟨g, k * 9 + 5, none⟩ = false ∧ w.frozen? ⟨g, k * 9 + 6, none⟩ = false ∧ w.frozen? ⟨g, k * 9 + 7, none⟩ = false ∧ w.frozen? ⟨g, k * 9 + 8, none⟩ = false := by
  refine ⟨?_, h.frozenAt _, h.frozenAt _, h.frozenAt _, h.frozenAt _, h.frozenAt _, h.frozenAt _, h.frozenAt _, h.frozenAt _, h.frozenAt _⟩
  cases hl : l[k] with
  | mk i d c bd at_ t r n s =>
    refine ⟨i, d, c, bd, at_, t, r, n, s, ?_, ?_, ?_, ?_, ?_, ?_, ?_, ?_, ?_⟩
    all_goals
      first
        | exact h.cellAt k hk 0 _ (by rw [hl]; rfl)
        | exact h.cellAt k hk 1 _ (by rw [hl]; rfl)
        | exact h.cellAt k hk 2 _ (by rw [hl]; rfl)
        | exact h.cellAt k hk 3 _ (by rw [hl]; rfl)
        | exact h.cellAt k hk 4 _ (by rw [hl]; rfl)
        | exact h.cellAt k hk 5 _ (by rw [hl]; rfl)
        | exact h.cellAt k hk 6 _ (by rw [hl]; rfl)
        | exact h.cellAt k hk 7 _ (by rw [hl]; rfl)
        | exact h.cellAt k hk 8 _ (by rw [hl]; rfl)
theorem lown_at {B : Nat} {w : World} {E : TypeId} {g n' cap : Nat} {l : List Lr} (h : ROwn lrS B w E (.slice (some ⟨g, 0, none⟩) n' cap) l) (k : Nat) (hk : k < l.length) :
    (∃ up ep sq v, l[k] = ⟨up, ep, sq, v⟩ ∧ C4 w g (k * 4) up ep sq v) ∧ w.frozen? ⟨g, k * 4, none⟩ = false ∧ w.frozen? ⟨g, k * 4 + 1, none⟩ = false ∧ w.frozen? ⟨g, k * 4 + 2, none⟩ = false ∧ w.frozen? ⟨g, k * 4 + 3, none⟩ = false := by
  refine ⟨?_, h.frozenAt _, h.frozenAt _, h.frozenAt _, h.frozenAt _⟩
  cases hl : l[k] with
  | mk up ep sq v => exact ⟨up, ep, sq, v, rfl, h.cellAt k hk 0 _ (by rw [hl]; rfl), h.cellAt k hk 1 _ (by rw [hl]; rfl), h.cellAt k hk 2 _ (by rw [hl]; rfl), h.cellAt k hk 3 _ (by rw [hl]; rfl)⟩

theorem eown_set {B : Nat} {w : World} {E : TypeId} {g cap n' : Nat} {l : List Ev} (h : ROwn evS B w E (.slice (some ⟨g, 0, none⟩) n' cap) l) (k : Nat) (hk : k < l.length) (x : Ev) (i d c : Int) (bd : ByteArray) (at_ t r n s : Int) (hx : x = ⟨i, d, c, bd, at_, t, r, n, s⟩) :
    ROwn evS B (((((((((w.setCell ⟨g, k * 9, none⟩ (.int .i64 i)).setCell ⟨g, k * 9 + 1, none⟩ (.int .i64 d)).setCell ⟨g, k * 9 + 2, none⟩ (.int .i64 c)).setCell ⟨g, k * 9 + 3, none⟩ (.string bd)).setCell ⟨g, k * 9 + 4, none⟩ (.int .i64 at_)).setCell ⟨g, k * 9 + 5, none⟩ (.int .i64 t)).setCell ⟨g, k * 9 + 6, none⟩ (.int .i64 r)).setCell ⟨g, k * 9 + 7, none⟩ (.int .i64 n)).setCell ⟨g, k * 9 + 8, none⟩ (.int .i64 s)) E (.slice (some ⟨g, 0, none⟩) n' cap) (l.set k x) ∧ w.grownBy (((((((((w.setCell ⟨g, k * 9, none⟩ (.int .i64 i)).setCell ⟨g, k * 9 + 1, none⟩ (.int .i64 d)).setCell ⟨g, k * 9 + 2, none⟩ (.int .i64 c)).setCell ⟨g, k * 9 + 3, none⟩ (.string bd)).setCell ⟨g, k * 9 + 4, none⟩ (.int .i64 at_)).setCell ⟨g, k * 9 + 5, none⟩ (.int .i64 t)).setCell ⟨g, k * 9 + 6, none⟩ (.int .i64 r)).setCell ⟨g, k * 9 + 7, none⟩ (.int .i64 n)).setCell ⟨g, k * 9 + 8, none⟩ (.int .i64 s)) (some g) := by
  subst hx
  exact h.set k hk ⟨i, d, c, bd, at_, t, r, n, s⟩
theorem lown_set {B : Nat} {w : World} {E : TypeId} {g cap n' : Nat} {l : List Lr} (h : ROwn lrS B w E (.slice (some ⟨g, 0, none⟩) n' cap) l) (k : Nat) (hk : k < l.length) (up : Bool) (ep sq : Int) (v : Value) :
    ROwn lrS B ((((w.setCell ⟨g, k * 4, none⟩ (.bool up)).setCell ⟨g, k * 4 + 1, none⟩ (.int .i64 ep)).setCell ⟨g, k * 4 + 2, none⟩ (.int .i64 sq)).setCell ⟨g, k * 4 + 3, none⟩ v) E (.slice (some ⟨g, 0, none⟩) n' cap) (l.set k ⟨up, ep, sq, v⟩) ∧ w.grownBy ((((w.setCell ⟨g, k * 4, none⟩ (.bool up)).setCell ⟨g, k * 4 + 1, none⟩ (.int .i64 ep)).setCell ⟨g, k * 4 + 2, none⟩ (.int .i64 sq)).setCell ⟨g, k * 4 + 3, none⟩ v) (some g) :=
  h.set k hk ⟨up, ep, sq, v⟩

set_option maxRecDepth 100000 in
set_option maxHeartbeats 1000000 in
theorem toEventS_any (w : World) (a : Option Addr) (len cap : Nat) (l : List Ev) (h : EIs w.heap.size w a len l) (hlen : len ≤ 1048576) :
    Calls Try.prog 55 #[.slice a len cap] w fun e w' => RowEnd evS 65 w w' l e := by
  obtain ⟨i0, hi, hz0, hz1, hz2⟩ := info_parts infoEvent
  have hl := h.row.hlen
  have HT := Lib.hid h
  have HL := Lib.hid hl
  clear h
  go_enter Try.func55, Try.ntmps55
  go_wp2_with (first | (at_make; refine wpList_make_full _ rfl _ _ 29 rfl w.heap.size 65 i0 (.agg #[.int .i64 0, .int .i64 0, .int .i64 0, .string ByteArray.empty, .int .i64 0, .int .i64 0, .int .i64 0, .int .i64 0, .int .i64 0]) 9 Try.underlying29 hi hz0 hz1 .i64 .i64 _ _ len rfl rfl rfl rfl (by rw [hz2]; omega) (by unfold maxLen; omega) (Nat.le_refl _) ?_; intro w1 hown1 hg1) | go_in)
  have hbel1 : Below w.heap.size w w1 := (Below.refl _ _).grown hg1 (Nat.le_refl _) (fun k e => by cases e)
  have hown1' : ROwn evS w.heap.size w1 65 (.slice (some ⟨w.heap.size, 0, none⟩) len len) (l.take 0 ++ List.replicate (l.length - 0) ev0) := by
    have hm := flatF_made evS (.agg #[.int .i64 0, .int .i64 0, .int .i64 0, .string ByteArray.empty, .int .i64 0, .int .i64 0, .int .i64 0, .int .i64 0, .int .i64 0]) ev0 len (by decide) rfl
    unfold ROwn
    rw [show (madeCells (Value.agg #[.int .i64 0, .int .i64 0, .int .i64 0, .string ByteArray.empty, .int .i64 0, .int .i64 0, .int .i64 0, .int .i64 0, .int .i64 0]).cells (len * 9)).toList = flatF evS (List.replicate len ev0) from hm] at hown1
    rw [show l.take 0 ++ List.replicate (l.length - 0) ev0 = List.replicate len ev0 by simp [hl], show (List.replicate len ev0).length = len by simp]
    exact hown1
  clear hl hown1
  go_loopw [4] (fun i wr => ∃ j : Nat, j ≤ len ∧ i = .int .i64 j ∧ Hid (ROwn evS w.heap.size wr 65 (.slice (some ⟨w.heap.size, 0, none⟩) len len) (l.take j ++ List.replicate (l.length - j) ev0)) ∧ Hid (Below w.heap.size w wr)) (fun i _ => len - (intOf i).toNat)
  case atStart => exact ⟨0, by omega, rfl, Lib.hid hown1', Lib.hid hbel1⟩
  case round =>
    obtain ⟨j, hj, rfl, HO, HB⟩ := hrel
    by_cases hlt : (j : Int) < (len : Int)
    · have hjl : j < l.length := by have := HL.out; omega
      obtain ⟨b, off, i, d, c, bd, at_, t, r, n, s, rfl, hb, hlj, hbd, c0, c1, c2, c3, c4, c5, c6, c7, c8⟩ := (HT.out.below HB.out).at j hjl
      have HJ := Lib.hid hlj
      clear hlj hbd
      go_wp2_with fail
      refine (Evt.toEvent_any i d c bd at_ t r n s _).mono ?_
      rintro e w2 ⟨rfl, hb2⟩
      have ho2 := HO.out.below hb2
      have hjj : j < (l.take j ++ List.replicate (l.length - j) ev0).length := by simp; omega
      obtain ⟨⟨z0, z1, z2, z3, z4, z5, z6, z7, z8, d0, d1, d2, d3, d4, d5, d6, d7, d8⟩, f0, f1, f2, f3, f4, f5, f6, f7, f8⟩ := eown_at ho2 j hjj
      have hst := eown_set ho2 j hjj l[j] i d c bd at_ t r n s HJ.out
      rw [set_next' l ev0 j hjl _ rfl] at hst
      have HS := Lib.hid hst
      have HW2 := Lib.hid (bAfter HB.out hb2 HB.out.size)
      clear hst ho2 hjj hb2 c0 c1 c2 c3 c4 c5 c6 c7 c8
      go_wp2_with fail
      go_roundw
      case rel => exact ⟨j + 1, by omega, by go_num, Lib.hid HS.out.1, Lib.hid (HW2.out.grown HS.out.2 (by have := HW2.out.size; omega) (fun k e => by cases e; exact Nat.le_refl _))⟩
      case measure => simp [intOf]; omega
    · have hjl : j = l.length := by have := HL.out; omega
      have hfin : l.take j ++ List.replicate (l.length - j) ev0 = l := by rw [hjl]; simp
      have HO' := Lib.hid (hfin ▸ HO.out)
      clear HO hfin hjl
      go_wp2
      go_ret
      have hn := HL.out
      exact ⟨⟨_, _, by rw [hn]; rfl, by have := HO'.out; rwa [hn]⟩, HB.out⟩

set_option maxRecDepth 100000 in
set_option maxHeartbeats 1000000 in
theorem toIntS_any (w : World) (a : Option Addr) (len cap : Nat) (l : List Int) (h : IIs w.heap.size w a len l) (hlen : len ≤ 1048576) :
    Calls Try.prog 57 #[.slice a len cap] w fun e w' => IntEnd w w' l e := by
  obtain ⟨i0, hi, hz0, hz1, hz2⟩ := info_parts infoInt'
  have hl := h.hlen
  have HT := Lib.hid h
  have HL := Lib.hid hl
  clear h
  go_enter Try.func57, Try.ntmps57
  go_wp2_with (first | (at_make; refine wpList_make_full _ rfl _ _ 31 rfl w.heap.size 3 i0 (.int .i64 0) 1 Try.underlying31 hi hz0 hz1 .i64 .i64 _ _ len rfl rfl rfl rfl (by rw [hz2]; omega) (by unfold maxLen; omega) (Nat.le_refl _) ?_; intro w1 hown1 hg1) | go_in)
  have hbel1 : Below w.heap.size w w1 := (Below.refl _ _).grown hg1 (Nat.le_refl _) (fun k e => by cases e)
  have hown1' : IOwn w.heap.size w1 (.slice (some ⟨w.heap.size, 0, none⟩) len len) (l.take 0 ++ List.replicate (l.length - 0) 0) := by
    rw [show (Value.int IntKind.i64 0).cells = #[.int .i64 0] from rfl, Nat.mul_one, toList_madeCells_one] at hown1
    unfold IOwn
    simpa [hl] using hown1
  clear hl hown1
  go_loopw [4] (fun i wr => ∃ j : Nat, j ≤ len ∧ i = .int .i64 j ∧ Hid (IOwn w.heap.size wr (.slice (some ⟨w.heap.size, 0, none⟩) len len) (l.take j ++ List.replicate (l.length - j) 0)) ∧ Hid (Below w.heap.size w wr)) (fun i _ => len - (intOf i).toNat)
  case atStart => exact ⟨0, by omega, rfl, Lib.hid hown1', Lib.hid hbel1⟩
  case round =>
    obtain ⟨j, hj, rfl, HO, HB⟩ := hrel
    by_cases hlt : (j : Int) < (len : Int)
    · have hjl : j < l.length := by have := HL.out; omega
      obtain ⟨b, off, rfl, hb, c0⟩ := (HT.out.below HB.out).cell j hjl
      obtain ⟨x, hx⟩ : ∃ x, x = l[j] := ⟨_, rfl⟩
      rw [← hx] at c0
      have HX := Lib.hid hx
      clear hx
      have hjj : j < (l.take j ++ List.replicate (l.length - j) 0).length := by simp; omega
      obtain ⟨d0, f0⟩ := HO.out.cellAt j hjj
      obtain ⟨z, hz⟩ : ∃ z, z = (l.take j ++ List.replicate (l.length - j) 0)[j] := ⟨_, rfl⟩
      rw [← hz] at d0
      have hst := HO.out.set j hjj x
      rw [set_next' l 0 j hjl x HX.out] at hst
      have HS := Lib.hid hst
      have HW2 := HB
      clear hst hz hjj
      go_wp2_with fail
      go_roundw
      case rel => exact ⟨j + 1, by omega, by go_num, Lib.hid HS.out.1, Lib.hid (HW2.out.grown HS.out.2 (by have := HW2.out.size; omega) (fun k e => by cases e; exact Nat.le_refl _))⟩
      case measure => simp [intOf]; omega
    · have hjl : j = l.length := by have := HL.out; omega
      have hfin : l.take j ++ List.replicate (l.length - j) 0 = l := by rw [hjl]; simp
      have HO' := Lib.hid (hfin ▸ HO.out)
      clear HO hfin hjl
      go_wp2
      go_ret
      have hn := HL.out
      exact ⟨⟨_, _, by rw [hn]; rfl, by have := HO'.out; rwa [hn]⟩, HB.out⟩

theorem yis_grown {w w' : World} {g : Nat} {a : Option Addr} {n : Nat} {l : List Lnk.Y} (h : Lnk.YIs w.heap.size w a n l) (hg : w.grownBy w' (some g)) (hne : ∀ b, a.map (·.block) = some b → b ≠ g) : Lnk.YIs w'.heap.size w' a n l :=
  ⟨h.hlen, h.le, fun k hk => by
    obtain ⟨b, off, e, hlt, h0, h1, h2⟩ := h.cell k hk
    have hb := hne b (by rw [e]; rfl)
    have hb' : some b ≠ some g := fun e => hb (by injection e)
    exact ⟨b, off, e, Nat.lt_of_lt_of_le hlt hg.size, hg.cell (a := ⟨b, off + k * 3, none⟩) h0 hb', hg.cell (a := ⟨b, off + k * 3 + 1, none⟩) h1 hb', hg.cell (a := ⟨b, off + k * 3 + 2, none⟩) h2 hb'⟩⟩
theorem own_map {a : Option Addr} {n c : Nat} : (Value.slice a n c).ownBlock = a.map (·.block) := by cases a <;> rfl
theorem LrIs.grown {w w' : World} {g : Nat} {r : Lr} {k : Lk} (h : LrIs w.heap.size w r k) (hg : w.grownBy w' (some g)) (hne : ∀ q, r.v.ownBlock = some q → q ≠ g) : LrIs w'.heap.size w' r k := by
  obtain ⟨h1, h2, h3, a, len, cap, h4, h5⟩ := h
  exact ⟨h1, h2, h3, a, len, cap, h4, yis_grown h5 hg (fun b hb => hne b (by rw [h4, own_map, hb]))⟩
/-- a row of links under way, in block g: the first j of them are done -/
structure LGo (B g : Nat) (w : World) (v : Value) (raw : List Lr) (l : List Lk) (j : Nat) : Prop where
  own : ROwn lrS B w 42 v raw
  len : raw.length = l.length
  done : ∀ k (h : k < raw.length) (h' : k < l.length), k < j → LrIs w.heap.size w raw[k] l[k] ∧ ∀ q, raw[k].v.ownBlock = some q → g < q
theorem LGo.start {B g : Nat} {w : World} {v : Value} {l : List Lk} (h : ROwn lrS B w 42 v (List.replicate l.length lr0)) : LGo B g w v (List.replicate l.length lr0) l 0 :=
  ⟨h, by simp, fun k _ _ h => by omega⟩
theorem LGo.below {B g : Nat} {w w' : World} {v : Value} {raw : List Lr} {l : List Lk} {j : Nat} (h : LGo B g w v raw l j) (hb : Below w.heap.size w w') : LGo B g w' v raw l j :=
  ⟨h.own.below hb, h.len, fun k hk hk' hj => ⟨((h.done k hk hk' hj).1.below hb).mono hb.size, (h.done k hk hk' hj).2⟩⟩
theorem LGo.step {B g : Nat} {w w' : World} {n cap : Nat} {raw : List Lr} {l : List Lk} {j : Nat} {up : Bool} {ep sq : Int} {y : List Lnk.Y} {a : Option Addr} {yn yc : Nat} (h : LGo B g w (.slice (some ⟨g, 0, none⟩) n cap) raw l j) (hj : j < l.length) (hl : l[j] = ⟨up, ep, sq, y⟩)
    (hy : Lnk.YIs w.heap.size w a yn y) (hi : ∀ q, (Value.slice a yn yc).ownBlock = some q → g < q)
    (ho : ROwn lrS B w' 42 (.slice (some ⟨g, 0, none⟩) n cap) (raw.set j ⟨up, ep, sq, .slice a yn yc⟩)) (hg : w.grownBy w' (some g)) : LGo B g w' (.slice (some ⟨g, 0, none⟩) n cap) (raw.set j ⟨up, ep, sq, .slice a yn yc⟩) l (j + 1) := by
  refine ⟨ho, by rw [List.length_set]; exact h.len, fun k hk hk' hkj => ?_⟩
  rw [List.length_set] at hk
  by_cases e : k = j
  · subst e
    rw [List.getElem_set_self, hl]
    exact ⟨LrIs.grown ⟨rfl, rfl, rfl, a, yn, yc, rfl, hy⟩ hg (fun q hq => by have := hi q hq; omega), hi⟩
  · rw [List.getElem_set_ne (by omega)]
    have h1 := h.done k hk hk' (by omega)
    exact ⟨h1.1.grown hg (fun q hq => by have := h1.2 q hq; omega), h1.2⟩
theorem yis_agree {w w' : World} {a : Option Addr} {n : Nat} {l : List Lnk.Y} (h : Lnk.YIs w.heap.size w a n l) (hs : w.heap.size ≤ w'.heap.size) (hh : ∀ b, a.map (·.block) = some b → b < w.heap.size → w'.heap[b]? = w.heap[b]?) : Lnk.YIs w'.heap.size w' a n l :=
  ⟨h.hlen, h.le, fun k hk => by
    obtain ⟨b, off, e, hlt, h0, h1, h2⟩ := h.cell k hk
    have hb := hh b (by rw [e]; rfl) hlt
    exact ⟨b, off, e, Nat.lt_of_lt_of_le hlt hs, (World.cell?_of_block (a := ⟨b, off + k * 3, none⟩) hb).trans h0, (World.cell?_of_block (a := ⟨b, off + k * 3 + 1, none⟩) hb).trans h1, (World.cell?_of_block (a := ⟨b, off + k * 3 + 2, none⟩) hb).trans h2⟩⟩
theorem LGo.end_ {B g : Nat} {w : World} {n cap : Nat} {a : Option Addr} {raw : List Lr} {l : List Lk} (hBg : B ≤ g) (h : LGo B g w (.slice a n cap) raw l l.length) : n = l.length ∧ Fresh B w (fun w => LIs w.heap.size w a n l) := by
  have h1 := h.own.is
  refine ⟨h1.1.trans h.len, fun w' hs hh => ⟨raw, (h.own.fresh w' hs hh).isN, h.len, fun k hk hk' => ?_⟩⟩
  obtain ⟨⟨e1, e2, e3, a, len, cap, e4, hy⟩, hq⟩ := h.done k hk hk' hk'
  exact ⟨e1, e2, e3, a, len, cap, e4, yis_agree hy hs (fun b hb hlt => hh b (by have := hq b (by rw [e4, own_map, hb]); omega) hlt)⟩

set_option maxRecDepth 100000 in
set_option maxHeartbeats 1000000 in
theorem toLinkS_any (w : World) (a : Option Addr) (len cap : Nat) (l : List Lk) (h : LIs w.heap.size w a len l) (hlen : len ≤ 1048576) (hf : ∀ k ∈ l, k.l.length ≤ 1048576) :
    Calls Try.prog 56 #[.slice a len cap] w fun e w' => LinksEnd w w' l e := by
  obtain ⟨i0, hi, hz0, hz1, hz2⟩ := info_parts infoLink
  have hl := h.hlen
  have HT := Lib.hid h
  have HL := Lib.hid hl
  have HF := Lib.hid hf
  clear h hf
  go_enter Try.func56, Try.ntmps56
  go_wp2_with (first | (at_make; refine wpList_make_full _ rfl _ _ 30 rfl w.heap.size 42 i0 (.agg #[.bool false, .int .i64 0, .int .i64 0, .slice none 0 0]) 4 Try.underlying30 hi hz0 hz1 .i64 .i64 _ _ len rfl rfl rfl rfl (by rw [hz2]; omega) (by unfold maxLen; omega) (Nat.le_refl _) ?_; intro w1 hown1 hg1) | go_in)
  have hbel1 : Below w.heap.size w w1 := (Below.refl _ _).grown hg1 (Nat.le_refl _) (fun k e => by cases e)
  have hown1' : LGo w.heap.size w.heap.size w1 (.slice (some ⟨w.heap.size, 0, none⟩) len len) (List.replicate l.length lr0) l 0 := by
    refine LGo.start ?_
    have hm := flatF_made lrS (.agg #[.bool false, .int .i64 0, .int .i64 0, .slice none 0 0]) lr0 len (by decide) rfl
    unfold ROwn
    rw [show (madeCells (Value.agg #[.bool false, .int .i64 0, .int .i64 0, .slice none 0 0]).cells (len * 4)).toList = flatF lrS (List.replicate len lr0) from hm] at hown1
    rw [hl, show (List.replicate len lr0).length = len by simp]
    exact hown1
  clear hl hown1
  go_loopw [4] (fun i wr => ∃ (j : Nat) (raw : List Lr), j ≤ len ∧ i = .int .i64 j ∧ Hid (LGo w.heap.size w.heap.size wr (.slice (some ⟨w.heap.size, 0, none⟩) len len) raw l j) ∧ Hid (Below w.heap.size w wr)) (fun i _ => len - (intOf i).toNat)
  case atStart => exact ⟨0, _, by omega, rfl, Lib.hid hown1', Lib.hid hbel1⟩
  case round =>
    obtain ⟨j, raw, hj, rfl, HO, HB⟩ := hrel
    by_cases hlt : (j : Int) < (len : Int)
    · have hjl : j < l.length := by have := HL.out; omega
      obtain ⟨b, off, up, ep, sq, y, fa, fl, fc, rfl, hb, hlj, hy, c0, c1, c2, c3⟩ := (HT.out.below HB.out).at j hjl
      have HJ := Lib.hid hlj
      have hyf := HF.out l[j] (List.getElem_mem _)
      rw [hlj] at hyf
      have HY := Lib.hid hy
      have HYF := Lib.hid hyf
      have HWR := Lib.hid (show w.heap.size < wr.heap.size from (World.ownsRow.lt HO.out.own _ rfl).2)
      clear hlj hy hyf
      go_wp2_with fail
      refine (Lnk.toLink_any _ w.heap.size fa fl fc up ep sq y HY.out HB.out.size (by have := HY.out.hlen; have := HYF.out; omega)).mono ?_
      rintro e w2 ⟨⟨a2, cap2, rfl, ho2⟩, hb2⟩
      have hgo := HO.out.below hb2
      have hjj : j < raw.length := by rw [HO.out.len]; exact hjl
      obtain ⟨⟨z0, z1, z2, z3, hzz, d0, d1, d2, d3⟩, f0, f1, f2, f3⟩ := lown_at hgo.own j hjj
      obtain ⟨n2, hn2⟩ : ∃ n, n = y.length := ⟨_, rfl⟩
      rw [← hn2] at ho2 ⊢
      have hst := lown_set hgo.own j hjj up ep sq (.slice a2 n2 cap2)
      have hgo2 := hgo.step hjl HJ.out ho2.isN (yc := cap2) (fun q hq => by have := (World.ownsRow.lt ho2 q hq).1; have := HWR.out; omega) hst.1 hst.2
      have HS := Lib.hid (And.intro hgo2 hst.2)
      have HW2 := Lib.hid (bAfter HB.out hb2 HB.out.size)
      clear hst ho2 hzz hjj hb2 c0 c1 c2 c3 hgo hgo2 hn2
      go_wp2_with fail
      go_roundw
      case rel => exact ⟨j + 1, _, by omega, by go_num, Lib.hid HS.out.1, Lib.hid (HW2.out.grown HS.out.2 (by have := HW2.out.size; omega) (fun k e => by cases e; exact Nat.le_refl _))⟩
      case measure => simp [intOf]; omega
    · have hjl : j = l.length := by have := HL.out; omega
      have HO' := Lib.hid (hjl ▸ HO.out)
      clear HO hjl
      go_wp2
      go_ret
      have hn := HL.out
      have he := HO'.out.end_ (Nat.le_refl _)
      exact ⟨⟨_, _, by rw [hn]; rfl, by rw [hn]; exact he.2⟩, HB.out⟩

end Go.Proofs.Ytecfomaapomncaa.Gat
