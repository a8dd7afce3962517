/-
  Rows of flies and of ints, and a link's box, in memory: read, owned, kept.
  Maps of the call's own with keys of int: a set of ids.
  A right link, and what is done to one, as plain lists. No Go in sight.
  The walks of the program's flyOk and LinkOk.
  The walk of the specification's LinkOk.
-/
import Derived.Test.YtkndpkingmemoaaDoorProg
import Derived.WalkKit
import Derived.WalkSpells
import Derived.WalkLawsBesides
import Derived.Lib.Hide
import Derived.Deep.QuietTactic
import Derived.BigQuiet
import Derived.Below
import Derived.OwnWalk
import Derived.Maps.AppendAt
import Derived.Deep.RegionHeld3
import Derived.Laws.AppendOwnNone
import Derived.Deep.AppendLies
import Derived.ArgAppend
import Derived.Maps.OwnSet
import Derived.WalkArith
import Derived.IntWalk
namespace Go.Proofs.YtkndpkingmemoaaDoor.Lnk
open Go.RowKit
set_option linter.unusedVariables false

/-- a fly: its number, its id, until when -/
abbrev Y := Int × Int × Int

theorem bOne (w : World) (o : Obj) : Below w.heap.size w (w.alloc o) := (Below.refl _ _).alloc (Nat.le_refl _) _
theorem bAfter {B : Nat} {a w w' : World} (h : Below B a w) (h2 : Below w.heap.size w w') (hB : B ≤ w.heap.size) : Below B a w' := h.trans (h2.mono hB)
theorem grown_of_below {w w' : World} (h : Below w.heap.size w w') (r : Option Nat) : w.grownBy w' r := ⟨h.os, h.tape, h.output, h.size, fun k hk _ => h.block k hk⟩
theorem below_keep {B : Nat} {w1 w2 : World} (hb : Below w1.heap.size w1 w2) (hB : B ≤ w1.heap.size) {a : Addr} {v : Value} (hlt : a.block < B) (h : w1.cell? a = some v) : w2.cell? a = some v :=
  (hb.cell (p := a) (by omega)).trans h
theorem below_drew' {B : Nat} {a w : World} (h : Below B a w) : Below B a w.drew := ⟨h.os, h.tape, h.output, h.size, h.block⟩
theorem below_drewN {B : Nat} {a w : World} (h : Below B a w) (n : Nat) : Below B a (w.drewN n) := ⟨h.os, h.tape, h.output, h.size, h.block⟩
theorem low_alloc {W w : World} (h : Below W.heap.size W w) (o : Obj) : Below W.heap.size W (w.alloc o) := h.alloc h.size _
theorem low_after {W w w1 : World} (h : Below W.heap.size W w) (h2 : Below w.heap.size w w1) : Below W.heap.size W w1 := bAfter h h2 h.size
/-- a slice of flies, as read: what lies in it, and that it lies below block B -/
structure YIs (B : Nat) (w : World) (a : Option Addr) (len : Nat) (l : List Y) : Prop where
  hlen : l.length = len
  le : len ≤ maxLen
  cell : ∀ k (h : k < l.length), ∃ b off, a = some ⟨b, off, none⟩ ∧ b < B ∧ w.cell? ⟨b, off + k * 3, none⟩ = some (.int .i64 l[k].1) ∧ w.cell? ⟨b, off + k * 3 + 1, none⟩ = some (.int .i64 l[k].2.1) ∧ w.cell? ⟨b, off + k * 3 + 2, none⟩ = some (.int .i64 l[k].2.2)
theorem YIs.below {B : Nat} {w w' : World} {a : Option Addr} {len : Nat} {l : List Y} (h : YIs B w a len l) (hb : Below B w w') : YIs B w' a len l :=
  ⟨h.hlen, h.le, fun k hk => by
    obtain ⟨b, off, e, hlt, h0, h1, h2⟩ := h.cell k hk
    exact ⟨b, off, e, hlt, (hb.cell (p := ⟨b, off + k * 3, none⟩) hlt).trans h0, (hb.cell (p := ⟨b, off + k * 3 + 1, none⟩) hlt).trans h1, (hb.cell (p := ⟨b, off + k * 3 + 2, none⟩) hlt).trans h2⟩⟩
theorem YIs.mono {B B' : Nat} {w : World} {a : Option Addr} {len : Nat} {l : List Y} (h : YIs B w a len l) (hB : B ≤ B') : YIs B' w a len l :=
  ⟨h.hlen, h.le, fun k hk => by
    obtain ⟨b, off, e, hlt, h0, h1⟩ := h.cell k hk
    exact ⟨b, off, e, Nat.lt_of_lt_of_le hlt hB, h0, h1⟩⟩
theorem YIs.here {w w' : World} {a : Option Addr} {len : Nat} {l : List Y} (h : YIs w.heap.size w a len l) (hb : Below w.heap.size w w') : YIs w'.heap.size w' a len l := (h.below hb).mono hb.size
theorem YIs.nil (B : Nat) (w : World) (a : Option Addr) : YIs B w a 0 [] := ⟨rfl, by unfold maxLen; omega, fun k hk => by simp at hk⟩

/-- the cells of flies -/
def flat (l : List Y) : List Value := l.flatMap fun t => [.int .i64 t.1, .int .i64 t.2.1, .int .i64 t.2.2]
theorem flat_cons (t : Y) (l : List Y) : flat (t :: l) = .int .i64 t.1 :: .int .i64 t.2.1 :: .int .i64 t.2.2 :: flat l := rfl
theorem flat_append (l m : List Y) : flat (l ++ m) = flat l ++ flat m := by simp [flat]
theorem flat_len : ∀ l : List Y, (flat l).length = l.length * 3
  | [] => rfl
  | t :: l => by rw [flat_cons, List.length_cons, List.length_cons, List.length_cons, flat_len l, List.length_cons]; omega
theorem flat_get : ∀ (l : List Y) (k : Nat) (h : k < l.length), (flat l)[k * 3]? = some (.int .i64 l[k].1) ∧ (flat l)[k * 3 + 1]? = some (.int .i64 l[k].2.1) ∧ (flat l)[k * 3 + 2]? = some (.int .i64 l[k].2.2)
  | [], k, h => by simp at h
  | t :: l, 0, _ => ⟨rfl, rfl, rfl⟩
  | t :: l, k + 1, h => by
    have e : (k + 1) * 3 = k * 3 + 1 + 1 + 1 := by omega
    rw [e, flat_cons]
    simp only [List.getElem?_cons_succ, List.getElem_cons_succ]
    exact flat_get l k (by simpa using h)
theorem flat_set : ∀ (l : List Y) (k : Nat) (x y z : Int), k < l.length → (((flat l).set (k * 3) (.int .i64 x)).set (k * 3 + 1) (.int .i64 y)).set (k * 3 + 2) (.int .i64 z) = flat (l.set k (x, y, z))
  | [], k, _, _, _, h => by simp at h
  | t :: l, 0, x, y, z, _ => rfl
  | t :: l, k + 1, x, y, z, h => by
    have e : (k + 1) * 3 = k * 3 + 1 + 1 + 1 := by omega
    rw [e, flat_cons]
    simp only [List.set_cons_succ]
    rw [flat_set l k x y z (by simpa using h), flat_cons]
theorem flat_one (l : List Y) : ∀ u ∈ flat l, u.oneCell' = true := by
  intro u hu
  obtain ⟨t, _, ht⟩ := List.mem_flatMap.1 hu
  simp at ht
  rcases ht with rfl | rfl | rfl <;> rfl
theorem YIs.flat {B : Nat} {w : World} {ad : Addr} {len : Nat} {l : List Y} (h : YIs B w (some ad) len l) : ∀ j u, (flat l)[j]? = some u → w.cell? (ad.add j) = some u := by
  intro j u hu
  have hj : j < l.length * 3 := by
    have := (List.getElem?_eq_some_iff.1 hu).1
    rwa [flat_len] at this
  obtain ⟨b, off, e, _, c0, c1, c2⟩ := h.cell (j / 3) (by omega)
  injection e with e
  subst e
  have hg := flat_get l (j / 3) (by omega)
  have hadd : (⟨b, off, none⟩ : Addr).add j = ⟨b, off + j, none⟩ := by unfold Addr.add; split <;> simp_all
  rw [hadd]
  have h2 : j % 3 = 0 ∨ j % 3 = 1 ∨ j % 3 = 2 := by omega
  rcases h2 with h2 | h2 | h2
  · have e2 : j / 3 * 3 = j := by omega
    rw [e2] at c0 hg
    rw [hg.1] at hu
    rw [c0]
    exact hu
  · have e2 : j / 3 * 3 + 1 = j := by omega
    have h1 := hg.2.1
    rw [e2] at h1
    rw [Nat.add_assoc, e2] at c1
    rw [h1] at hu
    rw [c1]
    exact hu
  · have e2 : j / 3 * 3 + 2 = j := by omega
    have h1 := hg.2.2
    rw [e2] at h1
    rw [Nat.add_assoc, e2] at c2
    rw [h1] at hu
    rw [c2]
    exact hu
theorem YIs.none_nil {B : Nat} {w : World} {len : Nat} {l : List Y} (h : YIs B w none len l) : l = [] ∧ len = 0 := by
  have hl0 : l = [] := by
    cases hc : l with
    | nil => rfl
    | cons t r =>
      obtain ⟨b, off, e, _⟩ := h.cell 0 (by rw [hc]; simp)
      cases e
  subst hl0
  exact ⟨rfl, by have := h.hlen; simpa using this.symm⟩

/-- a slice of flies of the call's own -/
def YOwn (B : Nat) (w : World) (E : TypeId) (v : Value) (l : List Y) : Prop := w.ownsRow B E 3 v l.length (flat l)
theorem YOwn.is {B : Nat} {w : World} {E : TypeId} {a : Option Addr} {len cap : Nat} {l : List Y} (h : YOwn B w E (.slice a len cap) l) : len = l.length ∧ YIs w.heap.size w a l.length l := by
  unfold YOwn at h
  rcases h.2 with ⟨e, h0⟩ | ⟨g, c, cur, e, hb, hg, hn, hm, hs, ht⟩
  · simp only [Value.slice.injEq] at e
    obtain ⟨rfl, rfl, rfl⟩ := e
    exact ⟨h0.symm, rfl, by unfold maxLen; omega, fun k hk => by omega⟩
  · simp only [Value.slice.injEq] at e
    obtain ⟨rfl, rfl, rfl⟩ := e
    refine ⟨rfl, rfl, by omega, fun k hk => ⟨g, 0, rfl, (h.lt g rfl).2, ?_, ?_, ?_⟩⟩
    · rw [Nat.zero_add, h.cellAt _ (by omega)]; exact (flat_get l k hk).1
    · rw [Nat.zero_add, h.cellAt _ (by omega)]; exact (flat_get l k hk).2.1
    · rw [Nat.zero_add, h.cellAt _ (by omega)]; exact (flat_get l k hk).2.2
theorem YOwn.isN {B : Nat} {w : World} {E : TypeId} {a : Option Addr} {n cap : Nat} {l : List Y} (h : YOwn B w E (.slice a n cap) l) : YIs w.heap.size w a n l := by
  have h1 := h.is
  rw [h1.1]
  exact h1.2
theorem YOwn.shape {B : Nat} {w : World} {E : TypeId} {v : Value} {l : List Y} (h : YOwn B w E v l) : ∃ a cap, v = .slice a l.length cap := by
  rcases h.2 with ⟨e, h0⟩ | ⟨g, c, cur, e, _⟩
  · exact ⟨none, 0, by rw [e, h0]⟩
  · exact ⟨_, _, e⟩
theorem YOwn.set {B : Nat} {w : World} {E : TypeId} {g cap n : Nat} {l : List Y} (h : YOwn B w E (.slice (some ⟨g, 0, none⟩) n cap) l) (k : Nat) (hk : k < l.length) (x y z : Int) :
    YOwn B (((w.setCell ⟨g, k * 3, none⟩ (.int .i64 x)).setCell ⟨g, k * 3 + 1, none⟩ (.int .i64 y)).setCell ⟨g, k * 3 + 2, none⟩ (.int .i64 z)) E (.slice (some ⟨g, 0, none⟩) n cap) (l.set k (x, y, z)) ∧
      w.grownBy (((w.setCell ⟨g, k * 3, none⟩ (.int .i64 x)).setCell ⟨g, k * 3 + 1, none⟩ (.int .i64 y)).setCell ⟨g, k * 3 + 2, none⟩ (.int .i64 z)) (some g) := by
  have hn : n = l.length := h.is.1
  subst hn
  unfold YOwn at *
  have h1 := h.stored (k * 3) (.int .i64 x)
  have h2 := h1.1.stored (k * 3 + 1) (.int .i64 y)
  have h3 := h2.1.stored (k * 3 + 2) (.int .i64 z)
  rw [flat_set l k x y z hk] at h3
  rw [List.length_set]
  exact ⟨h3.1, ((h1.2.trans h2.2).trans h3.2)⟩
theorem YOwn.below {B : Nat} {w w' : World} {E : TypeId} {v : Value} {l : List Y} (h : YOwn B w E v l) (hb : Below w.heap.size w w') : YOwn B w' E v l :=
  World.ownsRow.kept h (grown_of_below hb none) (by
    cases hv : v.ownBlock with
    | none => exact .inl rfl
    | some k => exact .inr (by simp))
theorem YOwn.grown {B : Nat} {w w' : World} {E : TypeId} {v : Value} {l : List Y} {r : Option Nat} (h : YOwn B w E v l) (hg : w.grownBy w' r) (hne : v.ownBlock = none ∨ v.ownBlock ≠ r) : YOwn B w' E v l := World.ownsRow.kept h hg hne
theorem YOwn.cellAt {B : Nat} {w : World} {E : TypeId} {g n cap : Nat} {l : List Y} (h : YOwn B w E (.slice (some ⟨g, 0, none⟩) n cap) l) (k : Nat) (hk : k < l.length) :
    (w.cell? ⟨g, k * 3, none⟩ = some (.int .i64 l[k].1) ∧ w.cell? ⟨g, k * 3 + 1, none⟩ = some (.int .i64 l[k].2.1) ∧ w.cell? ⟨g, k * 3 + 2, none⟩ = some (.int .i64 l[k].2.2)) ∧ w.frozen? ⟨g, k * 3, none⟩ = false ∧ w.frozen? ⟨g, k * 3 + 1, none⟩ = false ∧ w.frozen? ⟨g, k * 3 + 2, none⟩ = false := by
  have hn := h.is.1
  subst hn
  unfold YOwn at h
  exact ⟨⟨by rw [h.cellAt _ (by omega)]; exact (flat_get l k hk).1, by rw [h.cellAt _ (by omega)]; exact (flat_get l k hk).2.1, by rw [h.cellAt _ (by omega)]; exact (flat_get l k hk).2.2⟩, h.frozenAt _, h.frozenAt _, h.frozenAt _⟩
theorem YOwn.base {B B' : Nat} {w : World} {E : TypeId} {v : Value} {l : List Y} (h : YOwn B w E v l) (hB : B' ≤ B) : YOwn B' w E v l := by
  refine ⟨h.1, ?_⟩
  rcases h.2 with e | ⟨g, c, cur, e, hb, r⟩
  · exact .inl e
  · exact .inr ⟨g, c, cur, e, by omega, r⟩
/-- a store into a block below the row's base -/
theorem YOwn.setLow {B : Nat} {w : World} {E : TypeId} {v : Value} {l : List Y} (h : YOwn B w E v l) {p : Addr} (hp : p.block < B) (u : Value) : YOwn B (w.setCell p u) E v l := by
  refine World.ownsRow.kept h (row := some p.block) ⟨rfl, rfl, rfl, by simp, fun k _ hk => heap_setCell_other w p k u (fun e => hk (by simp [e]))⟩ ?_
  cases hv : v.ownBlock with
  | none => exact .inl rfl
  | some k =>
    have := (World.ownsRow.lt h k hv).1
    refine .inr (fun e => ?_)
    injection e with e
    omega
theorem YOwn.nil (B : Nat) (w : World) (E : TypeId) : YOwn B w E (.slice none 0 0) [] := World.ownsRow_nil _ _ _ _
/-- an empty row that is not nil -/
theorem ylit (w : World) (E : TypeId) : YOwn w.heap.size (w.alloc (.cells #[] E)) E (.slice (some ⟨w.heap.size, 0, none⟩) 0 0) [] :=
  World.ownsRow_lit (base := w.heap.size) (e := E) (size := 3) w #[] 0 (Nat.le_refl _) (by unfold maxLen; omega) rfl

/-- a slice of ints of the call's own -/
def IOwn (B : Nat) (w : World) (v : Value) (xs : List Int) : Prop := w.ownsRow B 3 1 v xs.length (xs.map fun x => .int .i64 x)
theorem IOwn.shape {B : Nat} {w : World} {v : Value} {xs : List Int} (h : IOwn B w v xs) : ∃ a cap, v = .slice a xs.length cap := by
  rcases h.2 with ⟨e, h0⟩ | ⟨g, c, cur, e, _⟩
  · exact ⟨none, 0, by rw [e, h0]⟩
  · exact ⟨_, _, e⟩
theorem IOwn.below {B : Nat} {w w' : World} {v : Value} {xs : List Int} (h : IOwn B w v xs) (hb : Below w.heap.size w w') : IOwn B w' v xs :=
  World.ownsRow.kept h (grown_of_below hb none) (by
    cases hv : v.ownBlock with
    | none => exact .inl rfl
    | some k => exact .inr (by simp))
theorem IOwn.grown {B : Nat} {w w' : World} {v : Value} {xs : List Int} {r : Option Nat} (h : IOwn B w v xs) (hg : w.grownBy w' r) (hne : v.ownBlock = none ∨ v.ownBlock ≠ r) : IOwn B w' v xs := World.ownsRow.kept h hg hne
theorem IOwn.base {B B' : Nat} {w : World} {v : Value} {xs : List Int} (h : IOwn B w v xs) (hB : B' ≤ B) : IOwn B' w v xs := by
  refine ⟨h.1, ?_⟩
  rcases h.2 with e | ⟨g, c, cur, e, hb, r⟩
  · exact .inl e
  · exact .inr ⟨g, c, cur, e, by omega, r⟩
theorem IOwn.setLow {B : Nat} {w : World} {v : Value} {xs : List Int} (h : IOwn B w v xs) {p : Addr} (hp : p.block < B) (u : Value) : IOwn B (w.setCell p u) v xs := by
  refine World.ownsRow.kept h (row := some p.block) ⟨rfl, rfl, rfl, by simp, fun k _ hk => heap_setCell_other w p k u (fun e => hk (by simp [e]))⟩ ?_
  cases hv : v.ownBlock with
  | none => exact .inl rfl
  | some k =>
    have := (World.ownsRow.lt h k hv).1
    exact .inr (fun e => by injection e with e; omega)
theorem IOwn.nil (B : Nat) (w : World) : IOwn B w (.slice none 0 0) [] := World.ownsRow_nil _ _ _ _
theorem ilit (w : World) : IOwn w.heap.size (w.alloc (.cells #[] 3)) (.slice (some ⟨w.heap.size, 0, none⟩) 0 0) [] :=
  World.ownsRow_lit (base := w.heap.size) (e := 3) (size := 1) w #[] 0 (Nat.le_refl _) (by unfold maxLen; omega) rfl
/-- a slice of ints that can be read -/
structure IIs (B : Nat) (w : World) (a : Option Addr) (len : Nat) (l : List Int) : Prop where
  hlen : l.length = len
  cell : ∀ k (h : k < l.length), ∃ b off, a = some ⟨b, off, none⟩ ∧ b < B ∧ w.cell? ⟨b, off + k, none⟩ = some (.int .i64 l[k])
theorem IIs.below {B : Nat} {w w' : World} {a : Option Addr} {len : Nat} {l : List Int} (h : IIs B w a len l) (hb : Below B w w') : IIs B w' a len l :=
  ⟨h.hlen, fun k hk => by
    obtain ⟨b, off, e, hlt, h0⟩ := h.cell k hk
    exact ⟨b, off, e, hlt, (hb.cell (p := ⟨b, off + k, none⟩) hlt).trans h0⟩⟩
theorem IIs.mono {B B' : Nat} {w : World} {a : Option Addr} {len : Nat} {l : List Int} (h : IIs B w a len l) (hB : B ≤ B') : IIs B' w a len l :=
  ⟨h.hlen, fun k hk => by
    obtain ⟨b, off, e, hlt, h0⟩ := h.cell k hk
    exact ⟨b, off, e, by omega, h0⟩⟩
theorem IIs.here {w w' : World} {a : Option Addr} {len : Nat} {l : List Int} (h : IIs w.heap.size w a len l) (hb : Below w.heap.size w w') : IIs w'.heap.size w' a len l := (h.below hb).mono hb.size
theorem IOwn.lit {B : Nat} {w : World} {a : Option Addr} {n cap : Nat} {xs : List Int} (h : IOwn B w (.slice a n cap) xs) : n = xs.length ∧ IIs w.heap.size w a xs.length xs := by
  rcases h.2 with ⟨e, h0⟩ | ⟨g, c, cur, e, hb, hg, hn, hm, hs, ht⟩
  · simp only [Value.slice.injEq] at e
    obtain ⟨rfl, rfl, rfl⟩ := e
    exact ⟨h0.symm, rfl, fun k hk => by omega⟩
  · simp only [Value.slice.injEq] at e
    obtain ⟨rfl, rfl, rfl⟩ := e
    refine ⟨rfl, rfl, fun k hk => ⟨g, 0, rfl, lt_of_block hg, ?_⟩⟩
    have h1 := World.ownsRow.cellAt h k (by omega)
    rw [Nat.zero_add, h1, List.getElem?_map, List.getElem?_eq_getElem hk]
    rfl
theorem IOwn.isN {B : Nat} {w : World} {a : Option Addr} {n cap : Nat} {xs : List Int} (h : IOwn B w (.slice a n cap) xs) : IIs w.heap.size w a n xs := by
  have h1 := h.lit
  rw [h1.1]
  exact h1.2
theorem IOwn.set {B : Nat} {w : World} {g cap n : Nat} {l : List Int} (h : IOwn B w (.slice (some ⟨g, 0, none⟩) n cap) l) (k : Nat) (hk : k < l.length) (x : Int) :
    IOwn B (w.setCell ⟨g, k, none⟩ (.int .i64 x)) (.slice (some ⟨g, 0, none⟩) n cap) (l.set k x) ∧ w.grownBy (w.setCell ⟨g, k, none⟩ (.int .i64 x)) (some g) := by
  have hn : n = l.length := h.lit.1
  subst hn
  unfold IOwn at *
  have h1 := World.ownsRow.stored h k (.int .i64 x)
  rw [List.length_set, List.map_set]
  exact h1
theorem IOwn.cellAt {B : Nat} {w : World} {g n cap : Nat} {l : List Int} (h : IOwn B w (.slice (some ⟨g, 0, none⟩) n cap) l) (k : Nat) (hk : k < l.length) :
    w.cell? ⟨g, k, none⟩ = some (.int .i64 l[k]) ∧ w.frozen? ⟨g, k, none⟩ = false := by
  have hn := h.lit.1
  subst hn
  unfold IOwn at h
  refine ⟨?_, h.frozenAt _⟩
  rw [World.ownsRow.cellAt h k (by omega), List.getElem?_map, List.getElem?_eq_getElem hk]
  rfl
/-- a box of three cells, of a fly -/
structure Bf (w : World) (b : Nat) (t : Y) : Prop where
  c0 : w.cell? ⟨b, 0, none⟩ = some (.int .i64 t.1)
  c1 : w.cell? ⟨b, 1, none⟩ = some (.int .i64 t.2.1)
  c2 : w.cell? ⟨b, 2, none⟩ = some (.int .i64 t.2.2)
  lt : b < w.heap.size
theorem Bf.below {w w' : World} {b : Nat} {t : Y} (h : Bf w b t) (hb : Below w.heap.size w w') : Bf w' b t :=
  ⟨(hb.cell (p := ⟨b, 0, none⟩) h.lt).trans h.c0, (hb.cell (p := ⟨b, 1, none⟩) h.lt).trans h.c1, (hb.cell (p := ⟨b, 2, none⟩) h.lt).trans h.c2, Nat.lt_of_lt_of_le h.lt hb.size⟩
theorem Bf.new (w : World) (x y z : Int) (t : TypeId) : Bf (w.alloc (.cells #[.int .i64 x, .int .i64 y, .int .i64 z] t)) w.heap.size (x, y, z) :=
  ⟨cell_of_row _ _ 0 _ t (0, 0) (heap_alloc_new w _), cell_of_row _ _ 1 _ t (0, 0) (heap_alloc_new w _), cell_of_row _ _ 2 _ t (0, 0) (heap_alloc_new w _), by simp⟩
/-- a box of four cells, of a link -/
structure B4 (w : World) (b : Nat) (up : Bool) (ep sq : Int) (v : Value) : Prop where
  c0 : w.cell? ⟨b, 0, none⟩ = some (.bool up)
  c1 : w.cell? ⟨b, 1, none⟩ = some (.int .i64 ep)
  c2 : w.cell? ⟨b, 2, none⟩ = some (.int .i64 sq)
  c3 : w.cell? ⟨b, 3, none⟩ = some v
  lt : b < w.heap.size
section
variable {w w' : World} {b : Nat} {up : Bool} {ep sq : Int} {v : Value}
theorem B4.below (h : B4 w b up ep sq v) (hb : Below w.heap.size w w') : B4 w' b up ep sq v :=
  ⟨(hb.cell (p := ⟨b, 0, none⟩) h.lt).trans h.c0, (hb.cell (p := ⟨b, 1, none⟩) h.lt).trans h.c1, (hb.cell (p := ⟨b, 2, none⟩) h.lt).trans h.c2, (hb.cell (p := ⟨b, 3, none⟩) h.lt).trans h.c3, Nat.lt_of_lt_of_le h.lt hb.size⟩
theorem B4.low {B : Nat} (h : B4 w b up ep sq v) (hb : Below B w w') (hlt : b < B) : B4 w' b up ep sq v :=
  ⟨(hb.cell (p := ⟨b, 0, none⟩) hlt).trans h.c0, (hb.cell (p := ⟨b, 1, none⟩) hlt).trans h.c1, (hb.cell (p := ⟨b, 2, none⟩) hlt).trans h.c2, (hb.cell (p := ⟨b, 3, none⟩) hlt).trans h.c3, Nat.lt_of_lt_of_le h.lt hb.size⟩
theorem B4.grown {r : Option Nat} (h : B4 w b up ep sq v) (hg : w.grownBy w' r) (hne : r ≠ some b) : B4 w' b up ep sq v :=
  ⟨(hg.cell_far ⟨b, 0, none⟩ h.lt (Ne.symm hne)).trans h.c0, (hg.cell_far ⟨b, 1, none⟩ h.lt (Ne.symm hne)).trans h.c1, (hg.cell_far ⟨b, 2, none⟩ h.lt (Ne.symm hne)).trans h.c2, (hg.cell_far ⟨b, 3, none⟩ h.lt (Ne.symm hne)).trans h.c3, Nat.lt_of_lt_of_le h.lt hg.size⟩
theorem B4.new (w : World) (up : Bool) (ep sq : Int) (v : Value) (t : TypeId) : B4 (w.alloc (.cells #[.bool up, .int .i64 ep, .int .i64 sq, v] t)) w.heap.size up ep sq v :=
  ⟨cell_of_row _ _ 0 _ t (0, 0) (heap_alloc_new w _), cell_of_row _ _ 1 _ t (0, 0) (heap_alloc_new w _), cell_of_row _ _ 2 _ t (0, 0) (heap_alloc_new w _), cell_of_row _ _ 3 _ t (0, 0) (heap_alloc_new w _), by simp⟩
theorem B4.set (h : B4 w b up ep sq v) (p : Addr) (z : Value) (hne : p.block ≠ b) : B4 (w.setCell p z) b up ep sq v :=
  ⟨by rw [World.cell?_setCell_far _ _ _ _ hne]; exact h.c0, by rw [World.cell?_setCell_far _ _ _ _ hne]; exact h.c1, by rw [World.cell?_setCell_far _ _ _ _ hne]; exact h.c2, by rw [World.cell?_setCell_far _ _ _ _ hne]; exact h.c3, by simpa using h.lt⟩
theorem B4.cells (h : B4 w b up ep sq v) : w.cell? ⟨b, 0, none⟩ = some (.bool up) ∧ w.cell? ⟨b, 1, none⟩ = some (.int .i64 ep) ∧ w.cell? ⟨b, 2, none⟩ = some (.int .i64 sq) ∧ w.cell? ⟨b, 3, none⟩ = some v ∧ b < w.heap.size := ⟨h.c0, h.c1, h.c2, h.c3, h.lt⟩
end
/-- a box none of whose cells is frozen -/
def Fr (w : World) (b : Nat) : Prop := ∀ k, w.frozen? ⟨b, k, none⟩ = false
theorem Fr.new (w : World) (cs : Array Value) (t : TypeId) : Fr (w.alloc (.cells cs t)) w.heap.size := fun k => frozen_of_row _ _ k _ t (heap_alloc_new w _)
theorem Fr.low {B : Nat} {w w' : World} {b : Nat} (h : Fr w b) (hb : Below B w w') (hk : b < B) : Fr w' b := fun k => (hb.frozen (p := ⟨b, k, none⟩) hk).trans (h k)
theorem Fr.set {w : World} {b : Nat} (h : Fr w b) (p : Addr) (v : Value) : Fr (w.setCell p v) b := fun k => by rw [World.frozen?_setCell]; exact h k
theorem Fr.grown {w w1 : World} {k : Nat} {r : Option Nat} (h : Fr w k) (hlt : k < w.heap.size) (hg : w.grownBy w1 r) (hne : r ≠ some k) : Fr w1 k :=
  fun j => (hg.frozen_far ⟨k, j, none⟩ hlt (Ne.symm hne)).trans (h j)

/-- the marks from k on -/
def mrkY (k : Int) (n : Nat) : List Y := (List.range n).map fun (j : Nat) => (k + 3 * j, k + 3 * j + 1, k + 3 * j + 2)
def mrkI (k : Int) (n : Nat) : List Int := (List.range n).map fun (j : Nat) => k + j
theorem mrkY_len (k : Int) (n : Nat) : (mrkY k n).length = n := by simp [mrkY]
theorem mrkI_len (k : Int) (n : Nat) : (mrkI k n).length = n := by simp [mrkI]
theorem mrkY_get (k : Int) (n j : Nat) (h : j < (mrkY k n).length) : (mrkY k n)[j] = (k + 3 * j, k + 3 * j + 1, k + 3 * j + 2) := by simp [mrkY]
theorem mrkI_get (k : Int) (n j : Nat) (h : j < (mrkI k n).length) : (mrkI k n)[j] = k + j := by simp [mrkI]
theorem mrkY_step (k : Int) (l : List Y) (j : Nat) (h : j < l.length) :
    (mrkY k j ++ l.drop j).set j (k + 3 * j, k + 3 * j + 1, k + 3 * j + 2) = mrkY k (j + 1) ++ l.drop (j + 1) := by
  have e : mrkY k (j + 1) = mrkY k j ++ [(k + 3 * (j : Int), k + 3 * (j : Int) + 1, k + 3 * (j : Int) + 2)] := by simp [mrkY, List.range_succ]
  rw [e, List.set_append_right _ _ (by simp [mrkY]), List.append_assoc]
  congr 1
  rw [show j - (mrkY k j).length = 0 by simp [mrkY], List.drop_eq_getElem_cons h]
  rfl
theorem mrkI_step (k : Int) (l : List Int) (j : Nat) (h : j < l.length) :
    (mrkI k j ++ l.drop j).set j (k + j) = mrkI k (j + 1) ++ l.drop (j + 1) := by
  have e : mrkI k (j + 1) = mrkI k j ++ [k + (j : Int)] := by simp [mrkI, List.range_succ]
  rw [e, List.set_append_right _ _ (by simp [mrkI]), List.append_assoc]
  congr 1
  rw [show j - (mrkI k j).length = 0 by simp [mrkI], List.drop_eq_getElem_cons h]
  rfl
theorem mrkY_mid_len (k : Int) (l : List Y) (j : Nat) (h : j ≤ l.length) : (mrkY k j ++ l.drop j).length = l.length := by simp [mrkY_len]; omega
theorem mrkI_mid_len (k : Int) (l : List Int) (j : Nat) (h : j ≤ l.length) : (mrkI k j ++ l.drop j).length = l.length := by simp [mrkI_len]; omega

theorem infoFly : (Tryd.prog.info? 86).map (fun i => (i.zero, i.size, i.bytes)) = some (some (.agg #[.int .i64 0, .int .i64 0, .int .i64 0]), 3, 24) := by kernel_rfl
theorem infoInt : (Tryd.prog.info? 3).map (fun i => (i.zero, i.size, i.bytes)) = some (some (.int .i64 0), 1, 8) := by kernel_rfl

theorem wp_append_run {P : Program} {w : World} {o : Oper} {a : Act} {K : Act → World → Prop} {Q : Exit → Act → World → Prop} (s x : Operand) (t : TypeId)
    (ho : o.op = .call { callee := .builtin .append, args := #[s, x], argTypes := #[t, t] }) (v sx : Value) (hs : a.eval s = v) (hx : a.eval x = sx) {R : Value → World → Prop}
    (hr : ∃ v' w', (Builtin.append_ #[t, t] o.type #[v, sx]).run P w = .ok v' w' ∧ R v' w') (h : ∀ v' w', R v' w' → K (a.put o.dst v') w') : o.wp P a w K Q := by
  obtain ⟨v', w', hr, h2⟩ := hr
  unfold Oper.wp execOp
  simp only [ho, resolve, invoke, builtin, Sem.run_bind, Sem.run_pure, Result.andThen_ok, List.map_toArray, List.map_cons, List.map_nil, hs, hx, hr]
  exact h v' w' h2
theorem step_append_run {P : Program} {w : World} {ops : Array Oper} {o : Oper} {a : Act} {K : Act → World → Prop} {Q : Exit → Act → World → Prop} {E : Prop} (hgd : o.guard = none) (s x : Operand) (t : TypeId)
    (ho : o.op = .call { callee := .builtin .append, args := #[s, x], argTypes := #[t, t] }) (v sx : Value) (hs : a.eval s = v) (hx : a.eval x = sx) {R : Value → World → Prop}
    (hr : ∃ v' w', (Builtin.append_ #[t, t] o.type #[v, sx]).run P w = .ok v' w' ∧ R v' w') (h : ∀ v' w', R v' w' → K (a.put o.dst v') w') :
    if Region.wanted o (yielded ops a.tmps) = true then Oper.wp P o a w K Q else E := by
  have hw : Region.wanted o (yielded ops a.tmps) = true := by simp [Region.wanted, hgd]
  rw [if_pos hw]
  exact wp_append_run s x t ho v sx hs hx hr h
theorem wpList_append_run {P : Program} {w : World} {ops : Array Oper} {rest : List Oper} {o : Oper} {a : Act} {Q : Exit → Act → World → Prop} (hgd : o.guard = none) (s x : Operand) (t : TypeId)
    (ho : o.op = .call { callee := .builtin .append, args := #[s, x], argTypes := #[t, t] }) (v sx : Value) (hs : a.eval s = v) (hx : a.eval x = sx) {R : Value → World → Prop}
    (hr : ∃ v' w', (Builtin.append_ #[t, t] o.type #[v, sx]).run P w = .ok v' w' ∧ R v' w') (h : ∀ v' w', R v' w' → wpList P ops Q rest (a.put o.dst v') w') : wpList P ops Q (o :: rest) a w :=
  wpList_plain hgd fun _ hK => wp_append_run s x t ho v sx hs hx hr (fun v' w' hR => hK _ _ (h v' w' hR))
/-- what an append of flies leaves -/
def AppY (B : Nat) (w : World) (v : Value) (xs : List Y) (v' : Value) (w' : World) : Prop :=
  YOwn B w' 86 v' xs ∧ w.grownBy w' v.ownBlock ∧ (v'.ownBlock = v.ownBlock ∨ v'.ownBlock = some w.heap.size)
theorem app_yis {T : TypeId} (hT : Tryd.prog.underlying T = some (.slice 86)) {w : World} {B : Nat} {v : Value} {xs l : List Y} {a : Option Addr} {len cap : Nat} (hown : YOwn B w 86 v xs) (hs : YIs w.heap.size w a len l) (hcap : a = none → cap = 0) (hx : xs.length + len ≤ 2000000) (hB : B ≤ w.heap.size) :
    ∃ v' w', (Builtin.append_ #[T, T] T #[v, .slice a len cap]).run Tryd.prog w = .ok v' w' ∧ AppY B w v (xs ++ l) v' w' := by
  obtain ⟨i0, hi, hz0, hz1, hz2⟩ := info_parts infoFly
  cases a with
  | none =>
    obtain ⟨rfl, rfl⟩ := hs.none_nil
    rw [hcap rfl, List.append_nil]
    exact ⟨v, w, run_append_owned_none (P := Tryd.prog) (w := w) B T T 86 i0 3 hT hi v xs.length (Lnk.flat xs) hown, hown, World.grownBy.refl _ _, .inl rfl⟩
  | some ad =>
    have hlen := hs.hlen
    obtain ⟨v', w', hr, h2, h3, _, h5⟩ := run_append_own_at (P := Tryd.prog) w B T T 86 i0 _ 3 24 hT hi hz0 hz1 hz2 rfl (by omega) v xs.length (Lnk.flat xs) hown ad len cap (Lnk.flat l) (by rw [flat_len, hlen]) hs.flat (flat_one l) (by unfold maxLen; omega) (by omega) hB
    exact ⟨v', w', hr, by unfold YOwn; rw [List.length_append, flat_append, hlen]; exact h2, h3, h5⟩
theorem AppY.below {B0 B : Nat} {w0 w w' : World} {v v' : Value} {xs : List Y} (h : AppY B w v xs v' w') (hb : Below B0 w0 w) (hB : B0 ≤ w0.heap.size) (hv : ∀ k, v.ownBlock = some k → B0 ≤ k) : Below B0 w0 w' := hb.grown h.2.1 (Nat.le_trans hB hb.size) hv
end Go.Proofs.YtkndpkingmemoaaDoor.Lnk
namespace Go.Proofs.YtkndpkingmemoaaDoor.Lnk
open Go.RowKit Go.Maps
set_option linter.unusedVariables false

theorem keyInt : Keyed Tryd.prog 3 := int_keyed Tryd.underlying3
theorem zeroBool (w : World) : (zeroValue 4).run Tryd.prog w = .ok (.bool false) w := by kernel_rfl
theorem keyOf_id {y : Int} (h0 : 1 ≤ y) (h1 : y ≤ 9999) : keyOf Tryd.prog 3 (.int .i64 y) = some (.int .i64 y) := keyOf_int_mk Tryd.underlying3 (WalkArith.wf_i64 (by omega))

/-- The map holds true at just these ids. -/
def SeenIs (D : DataW Unit) (ids : List Int) : Prop := IsMap D ∧ ∀ id : Int, D.atKey (.int .i64 id) (.lit (.bool false)) = .lit (.bool (decide (id ∈ ids)))
theorem SeenIs.start : SeenIs (.map []) [] := ⟨isMap_empty, fun id => by simp [DataW.atKey]⟩
theorem SeenIs.put {D : DataW Unit} {ids : List Int} (h : SeenIs D ids) (y : Int) : SeenIs (D.put (.int .i64 y) (.lit (.bool true))) (ids ++ [y]) := by
  refine ⟨h.1.put _ _, fun id => ?_⟩
  by_cases e : id = y
  · subst e
    rw [atKey_put_same h.1 (show WideAt.IsKeyLit (.int .i64 id) from trivial)]
    simp
  · rw [atKey_put_other (fun e' => e (by injection e')), h.2]
    simp [e]
theorem plainElem_bool_inv {P : Program} {e : TypeId} (he : P.underlying e = some .bool) {v : Value} {z : DataW Unit × List MemPlace} (h : plainElem P e v = some z) : ∃ c, v = .bool c ∧ z = (.lit (.bool c), []) := by
  unfold plainElem at h
  rw [he] at h
  cases v <;> simp at h
  exact ⟨_, rfl, h.symm⟩
theorem seen_look {w : World} {b n : Nat} {D : DataW Unit} {ids : List Int} (h : w.ownsMap Tryd.prog 3 (plainElem Tryd.prog 4) b n D) (hs : SeenIs D ids) {y : Int} (h0 : 1 ≤ y) (h1 : y ≤ 9999) :
    (Instr.lookup 106 (.map (some b)) (.int .i64 y) false).run Tryd.prog w = .ok (.bool (decide (y ∈ ids))) w := by
  obtain ⟨v, ps, hrun, hv⟩ := h.lookup keyInt Tryd.underlying106 (zeroBool w) (plainElem_bool Tryd.underlying4 false) (keyOf_id h0 h1)
  obtain ⟨c, rfl, hc⟩ := plainElem_bool_inv Tryd.underlying4 hv
  rw [hs.2] at hc
  simp only [Prod.mk.injEq, DataW.lit.injEq, Lit.bool.injEq] at hc
  rw [hrun, ← hc.1]
end Go.Proofs.YtkndpkingmemoaaDoor.Lnk
namespace Go.Proofs.YtkndpkingmemoaaDoor.Lnk
set_option linter.unusedVariables false

/-- a fly that is right by itself -/
def fOk (t : Int × Int × Int) : Prop := 1 ≤ t.2.1 ∧ t.2.1 ≤ 9999 ∧ 0 ≤ t.2.2 ∧ t.2.2 ≤ 2000000000
instance (t : Int × Int × Int) : Decidable (fOk t) := by unfold fOk; infer_instance
/-- the number ahead of the k-th -/
def lastS (l : List (Int × Int × Int)) (k : Nat) : Int := match k with | 0 => 0 | k + 1 => (l.getD k (0, 0, 0)).1
/-- what the k-th is held to -/
def stepOk (sq : Int) (l : List (Int × Int × Int)) (k : Nat) : Prop :=
  lastS l k < (l.getD k (0, 0, 0)).1 ∧ (l.getD k (0, 0, 0)).1 ≤ sq ∧ fOk (l.getD k (0, 0, 0)) ∧ ¬ (l.getD k (0, 0, 0)).2.1 ∈ (l.take k).map (fun t => t.2.1)
structure LOk (up : Bool) (ep sq : Int) (l : List (Int × Int × Int)) : Prop where
  e0 : 0 ≤ ep
  e1 : ep ≤ 60000
  s0 : 0 ≤ sq
  s1 : sq ≤ 60000
  len : l.length ≤ 8
  hup : 0 < l.length → up = true
  pw : l.Pairwise fun a b => a.1 < b.1 ∧ a.2.1 ≠ b.2.1
  rng : ∀ t ∈ l, 0 < t.1 ∧ t.1 ≤ sq ∧ fOk t

theorem getD_at {l : List (Int × Int × Int)} {k : Nat} (h : k < l.length) : l.getD k (0, 0, 0) = l[k] := by simp [List.getD_eq_getElem?_getD, List.getElem?_eq_getElem h]
theorem seen_iff {l : List (Int × Int × Int)} {k : Nat} (hk : k < l.length) (y : Int) : y ∈ (l.take k).map (fun t => t.2.1) ↔ ∃ j, j < k ∧ (l.getD j (0, 0, 0)).2.1 = y := by
  constructor
  · intro h
    obtain ⟨t, ht, rfl⟩ := List.mem_map.1 h
    obtain ⟨j, hj, rfl⟩ := List.getElem_of_mem ht
    have hj' : j < k := by simp at hj; omega
    exact ⟨j, hj', by rw [getD_at (by omega), List.getElem_take]⟩
  · rintro ⟨j, hj, rfl⟩
    rw [getD_at (by omega)]
    refine List.mem_map.2 ⟨l[j], ?_, rfl⟩
    have : (l.take k)[j]'(by simp; omega) = l[j] := List.getElem_take
    rw [← this]
    exact List.getElem_mem _
theorem lok_iff (up : Bool) (ep sq : Int) (l : List (Int × Int × Int)) : LOk up ep sq l ↔ (0 ≤ ep ∧ ep ≤ 60000 ∧ 0 ≤ sq ∧ sq ≤ 60000 ∧ l.length ≤ 8 ∧ (0 < l.length → up = true)) ∧ ∀ j, j < l.length → stepOk sq l j := by
  constructor
  · intro h
    refine ⟨⟨h.e0, h.e1, h.s0, h.s1, h.len, h.hup⟩, fun j hj => ?_⟩
    have hr := h.rng l[j] (List.getElem_mem hj)
    unfold stepOk
    rw [getD_at hj]
    refine ⟨?_, hr.2.1, hr.2.2, fun hm => ?_⟩
    · cases j with
      | zero => exact hr.1
      | succ j =>
        show (l.getD j (0, 0, 0)).1 < _
        rw [getD_at (by omega)]
        exact (List.pairwise_iff_getElem.1 h.pw j (j + 1) (by omega) hj (by omega)).1
    · obtain ⟨i, hi, he⟩ := (seen_iff hj _).1 hm
      rw [getD_at (by omega)] at he
      exact (List.pairwise_iff_getElem.1 h.pw i j (by omega) hj hi).2 he
  · rintro ⟨⟨e0, e1, s0, s1, len, hup⟩, h⟩
    have hpos : ∀ j (hj : j < l.length), 0 < l[j].1 := by
      intro j
      induction j with
      | zero => intro hj; have h1 := (h 0 hj).1; rw [getD_at hj] at h1; exact h1
      | succ j ih =>
        intro hj
        have h1 : (l.getD j (0, 0, 0)).1 < (l.getD (j + 1) (0, 0, 0)).1 := (h (j + 1) hj).1
        rw [getD_at hj, getD_at (by omega)] at h1
        have := ih (by omega)
        omega
    refine ⟨e0, e1, s0, s1, len, hup, ?_, fun t ht => ?_⟩
    · rw [List.pairwise_iff_getElem]
      intro i j hi hj hij
      constructor
      · clear hpos
        induction j with
        | zero => omega
        | succ j ih =>
          have h1 : (l.getD j (0, 0, 0)).1 < (l.getD (j + 1) (0, 0, 0)).1 := (h (j + 1) hj).1
          rw [getD_at hj, getD_at (by omega)] at h1
          by_cases e : i = j
          · subst e; exact h1
          · exact Int.lt_trans (ih (by omega) (by omega)) h1
      · intro he
        refine (h j hj).2.2.2 ((seen_iff hj _).2 ⟨i, hij, ?_⟩)
        rw [getD_at hi, getD_at hj]
        exact he
    · obtain ⟨j, hj, rfl⟩ := List.getElem_of_mem ht
      have h1 := h j hj
      unfold stepOk at h1
      rw [getD_at hj] at h1
      exact ⟨hpos j hj, h1.2.1, h1.2.2.1⟩
open Classical in
noncomputable def lokB (up : Bool) (ep sq : Int) (l : List (Int × Int × Int)) : Bool := decide (LOk up ep sq l)
section
variable {up : Bool} {ep sq : Int} {l : List (Int × Int × Int)}
theorem lokB_true (h : LOk up ep sq l) : lokB up ep sq l = true := by unfold lokB; simp [h]
theorem lokB_false (h : ¬ LOk up ep sq l) : lokB up ep sq l = false := by unfold lokB; simp [h]
theorem lok_not {k : Nat} (hk : k < l.length) (h : ¬ stepOk sq l k) : lokB up ep sq l = false :=
  lokB_false (fun hw => h (((lok_iff up ep sq l).1 hw).2 k hk))
theorem step_of {k : Nat} {x y z p : Int} (e : l.getD k (0, 0, 0) = (x, y, z)) (hp : lastS l k = p) (h0 : p < x) (h1 : x ≤ sq) (h2 : fOk (x, y, z)) (h3 : ¬ y ∈ (l.take k).map (fun t => t.2.1)) : stepOk sq l k := by
  unfold stepOk
  rw [e, hp]
  exact ⟨h0, h1, h2, h3⟩
theorem step_at {k : Nat} {x y z p : Int} (e : l.getD k (0, 0, 0) = (x, y, z)) (hp : lastS l k = p) (h : stepOk sq l k) : p < x ∧ x ≤ sq ∧ fOk (x, y, z) ∧ ¬ y ∈ (l.take k).map (fun t => t.2.1) := by
  unfold stepOk at h
  rw [e, hp] at h
  exact h
theorem last_next {k : Nat} {x y z : Int} (e : l.getD k (0, 0, 0) = (x, y, z)) : lastS l (k + 1) = x := by
  show (l.getD k (0, 0, 0)).1 = x
  rw [e]
theorem take_ids {k : Nat} {x y z : Int} (hk : k < l.length) (e : l.getD k (0, 0, 0) = (x, y, z)) : (l.take (k + 1)).map (fun t => t.2.1) = (l.take k).map (fun t => t.2.1) ++ [y] := by
  rw [List.take_succ_eq_append_getElem hk, ← getD_at hk, e]; simp
end
def idsL (l : List (Int × Int × Int)) : List Int := l.map fun t => t.2.1
def isI (id : Int) (t : Int × Int × Int) : Bool := decide (t.2.1 = id)
/-- Join, Leave -/
noncomputable def joiB (up : Bool) (ep sq : Int) (l : List (Int × Int × Int)) : Bool := lokB up ep sq l && decide (ep ≠ 60000)
noncomputable def joU (up : Bool) (ep sq : Int) (l : List (Int × Int × Int)) : Bool := if joiB up ep sq l then true else up
noncomputable def joE (up : Bool) (ep sq : Int) (l : List (Int × Int × Int)) : Int := if joiB up ep sq l then ep + 1 else ep
noncomputable def joS (up : Bool) (ep sq : Int) (l : List (Int × Int × Int)) : Int := if joiB up ep sq l then 0 else sq
noncomputable def joL (up : Bool) (ep sq : Int) (l : List (Int × Int × Int)) : List (Int × Int × Int) := if joiB up ep sq l then [] else l
noncomputable def joI (up : Bool) (ep sq : Int) (l : List (Int × Int × Int)) : List Int := if joiB up ep sq l then idsL l else []
noncomputable def leU (up : Bool) (ep sq : Int) (l : List (Int × Int × Int)) : Bool := if lokB up ep sq l then false else up
noncomputable def leL (up : Bool) (ep sq : Int) (l : List (Int × Int × Int)) : List (Int × Int × Int) := if lokB up ep sq l then [] else l
noncomputable def leI (up : Bool) (ep sq : Int) (l : List (Int × Int × Int)) : List Int := if lokB up ep sq l then idsL l else []
end Go.Proofs.YtkndpkingmemoaaDoor.Lnk
namespace Go.Proofs.YtkndpkingmemoaaDoor.Lnk
open Go.RowKit Go.Maps
set_option linter.unusedVariables false

theorem flyOk_yes (x y z : Int) (w : World) (h : fOk (x, y, z)) :
    Calls Tryd.prog 68 #[.agg #[.int .i64 x, .int .i64 y, .int .i64 z]] w fun e w' => e = .returned (.bool true) ∧ Below w.heap.size w w' := by
  unfold fOk at h
  obtain ⟨h1, h2, h3, h4⟩ := h
  simp only at h1 h2 h3 h4
  have h5 : decide (0 < y) = true := by simp; omega
  go_enter Tryd.func68, Tryd.ntmps68
  go_wp2
  go_ret
  exact ⟨rfl, bOne _ _⟩
theorem flyOk_no (x y z : Int) (w : World) (h : ¬ fOk (x, y, z)) :
    Calls Tryd.prog 68 #[.agg #[.int .i64 x, .int .i64 y, .int .i64 z]] w fun e w' => e = .returned (.bool false) ∧ Below w.heap.size w w' := by
  unfold fOk at h
  simp only at h
  by_cases h1 : 1 ≤ y
  · have k1 : decide (0 < y) = true := by simp; omega
    by_cases h2 : y ≤ 9999
    · by_cases h3 : 0 ≤ z
      · have h4 : decide (z ≤ 2000000000) = false := by simp; omega
        clear h
        go_enter Tryd.func68, Tryd.ntmps68
        go_wp2
        go_ret
        exact ⟨rfl, bOne _ _⟩
      · have h4 : decide (0 ≤ z) = false := by simp; omega
        clear h
        go_enter Tryd.func68, Tryd.ntmps68
        go_wp2
        go_ret
        exact ⟨rfl, bOne _ _⟩
    · have h4 : decide (y ≤ 9999) = false := by simp; omega
      clear h
      go_enter Tryd.func68, Tryd.ntmps68
      go_wp2
      go_ret
      exact ⟨rfl, bOne _ _⟩
  · have h4 : decide (1 ≤ y) = false := by simp; omega
    have h5 : decide (0 < y) = false := by simp; omega
    clear h
    go_enter Tryd.func68, Tryd.ntmps68
    go_wp2
    go_ret
    exact ⟨rfl, bOne _ _⟩

set_option maxRecDepth 100000 in
set_option maxHeartbeats 1000000 in
theorem linkOk_none (w : World) (a : Option Addr) (cap : Nat) (up : Bool) (ep sq : Int) (e0 : 0 ≤ ep) (e1 : ep ≤ 60000) (s0 : 0 ≤ sq) (s1 : sq ≤ 60000) :
    Calls Tryd.prog 52 #[.agg #[.bool up, .int .i64 ep, .int .i64 sq, .slice a 0 cap]] w fun e w' => e = .returned (.bool true) ∧ Below w.heap.size w w' := by
  have hmm := @run_makeMap Tryd.prog
  have hd1 : decide (ep < 0) = false := by simp; omega
  have hd2 : decide (60000 < ep) = false := by simp; omega
  have hd3 : decide (sq < 0) = false := by simp; omega
  have hd4 : decide (60000 < sq) = false := by simp; omega
  go_enter Tryd.func52, Tryd.ntmps52
  go_wp2
  refine wp_loop_rounds 1 ?_
  rw [rounds_succ]
  go_wp2
  go_ret
  exact ⟨rfl, ((Below.refl _ _).alloc (Nat.le_refl _) _).alloc (by simp) _⟩

set_option maxRecDepth 100000 in
set_option maxHeartbeats 1000000 in
theorem linkOk_loop (w : World) (a : Option Addr) (len cap : Nat) (ep sq : Int) (l : List Y) (h : YIs w.heap.size w a len l) (e0 : 0 ≤ ep) (e1 : ep ≤ 60000) (s0 : 0 ≤ sq) (s1 : sq ≤ 60000) (h8 : len ≤ 8) (hp : 0 < (len : Int)) :
    Calls Tryd.prog 52 #[.agg #[.bool true, .int .i64 ep, .int .i64 sq, .slice a len cap]] w fun e w' => e = .returned (.bool (lokB true ep sq l)) ∧ Below w.heap.size w w' := by
  have hmm := @run_makeMap Tryd.prog
  have HBX := Lib.hid (bOne w (.cells #[.bool true, .int .i64 ep, .int .i64 sq, .slice a len cap] 44))
  have HT := Lib.hid h
  have HL := Lib.hid h.hlen
  have HA := Lib.hid (B4.new w true ep sq (.slice a len cap) 44)
  have HW := Lib.hid (lok_iff true ep sq l)
  have HN := Lib.hid (And.intro e0 (And.intro e1 (And.intro s0 (And.intro s1 h8))))
  have hd0 : decide (8 < (len : Int)) = false := by simp; omega
  have hd1 : decide (ep < 0) = false := by simp; omega
  have hd2 : decide (60000 < ep) = false := by simp; omega
  have hd3 : decide (sq < 0) = false := by simp; omega
  have hd4 : decide (60000 < sq) = false := by simp; omega
  clear h e0 e1 s0 s1
  go_enter Tryd.func52, Tryd.ntmps52
  go_wp2_with fail
  clear hd0 hd1 hd2 hd3 hd4 hp
  go_loopw [4, 44] (fun pv i wr => ∃ (k : Nat) (D : DataW Unit) (p : Int), k ≤ len ∧ pv = .int .i64 p ∧ i = .int .i64 k ∧ Hid (lastS l k = p) ∧ Hid (∀ j, j < k → stepOk sq l j) ∧ Hid (wr.ownsMap Tryd.prog 3 (plainElem Tryd.prog 4) (w.heap.size + 1) k D) ∧ Hid (SeenIs D ((l.take k).map (fun t => t.2.1))) ∧ Hid (Below w.heap.size w wr) ∧ Hid (B4 wr w.heap.size true ep sq (.slice a len cap))) (fun _ i _ => len - (intOf i).toNat)
  case atStart =>
    refine ⟨0, .map [], 0, by omega, rfl, rfl, Lib.hid rfl, Lib.hid (by omega), Lib.hid ?_, Lib.hid SeenIs.start, Lib.hid (bAfter HBX.out (bOne _ _) (by simp)), Lib.hid (HA.out.below (bOne _ _))⟩
    have := World.ownsMap_made (H := Unit) (w.alloc (.cells #[.bool true, .int .i64 ep, .int .i64 sq, .slice a len cap] 44)) Tryd.prog 3 (plainElem Tryd.prog 4)
    simpa using this
  case round =>
    obtain ⟨k, D, p, hk, rfl, rfl, HP, HS, HM, HSN, HB, HBx⟩ := hrel
    by_cases hlt : (k : Int) < (len : Int)
    · have hkl : k < l.length := by have := HL.out; omega
      obtain ⟨b, off, rfl, hbw, cx, cy, cz⟩ := (HT.out.below HB.out).cell k hkl
      obtain ⟨x, hx⟩ : ∃ x, x = l[k].1 := ⟨_, rfl⟩
      obtain ⟨y, hy⟩ : ∃ y, y = l[k].2.1 := ⟨_, rfl⟩
      obtain ⟨z, hz⟩ : ∃ z, z = l[k].2.2 := ⟨_, rfl⟩
      have hxy : l.getD k (0, 0, 0) = (x, y, z) := by rw [hx, hy, hz, getD_at hkl]
      rw [← hx] at cx
      rw [← hy] at cy
      rw [← hz] at cz
      have HXY := Lib.hid hxy
      clear hx hy hz hxy
      obtain ⟨c0, c1, c2, c3, hltw⟩ := HBx.out.cells
      have HB1 := Lib.hid (bOne wr (.cells #[.int .i64 x, .int .i64 y, .int .i64 z] 86))
      have HX1 := Lib.hid (Bf.new wr x y z 86)
      have HBx1 := Lib.hid (HBx.out.below HB1.out)
      by_cases h1 : x ≤ p
      · have HNO := Lib.hid (lok_not (up := true) (ep := ep) (sq := sq) hkl (fun hs => by have := (step_at HXY.out HP.out hs).1; omega))
        go_wp2_with fail
        go_ret
        exact ⟨by rw [HNO.out]; rfl, bAfter HB.out HB1.out HB.out.size⟩
      by_cases h2 : sq < x
      · have HNO := Lib.hid (lok_not (up := true) (ep := ep) (sq := sq) hkl (fun hs => by have := (step_at HXY.out HP.out hs).2.1; omega))
        have hd1 : decide (x ≤ p) = false := by simp; omega
        go_wp2_with fail
        go_ret
        exact ⟨by rw [HNO.out]; rfl, bAfter HB.out HB1.out HB.out.size⟩
      have hd1 : decide (x ≤ p) = false := by simp; omega
      have hd2 : decide (sq < x) = false := by simp; omega
      have H12 := Lib.hid (And.intro h1 h2)
      clear h1 h2
      by_cases hok : fOk (x, y, z)
      · have HOK := Lib.hid hok
        clear hok
        go_wp2_with fail
        refine (flyOk_yes x y z _ HOK.out).mono ?_
        rintro e w2 ⟨rfl, hb2⟩
        have HB2 := Lib.hid (bAfter HB.out (bAfter HB1.out hb2 (by simp)) HB.out.size)
        have HX2 := Lib.hid (HX1.out.below hb2)
        have HBx2 := Lib.hid (HBx1.out.below hb2)
        have HM2 := Lib.hid ((HM.out.kept (grown_of_below HB1.out none) (by simp)).kept (grown_of_below hb2 none) (by simp))
        have hy1 : 1 ≤ y := HOK.out.1
        have hy2 : y ≤ 9999 := HOK.out.2.1
        have HLK := seen_look HM2.out HSN.out (y := y) hy1 hy2
        have HKEY := Lib.hid (keyOf_id hy1 hy2)
        clear hb2 cx cy cz c0 c1 c2 c3 hltw hy1 hy2
        obtain ⟨c0, c1, c2, c3, hltw⟩ := HBx2.out.cells
        obtain ⟨d0, d1, d2, hltx⟩ := HX2.out
        by_cases hmem : y ∈ (l.take k).map (fun t => t.2.1)
        · have HNO := Lib.hid (lok_not (up := true) (ep := ep) (sq := sq) hkl (fun hs => (step_at HXY.out HP.out hs).2.2.2 hmem))
          rw [decide_eq_true hmem] at HLK
          clear hmem
          go_wp2_with fail
          go_ret
          exact ⟨by rw [HNO.out]; rfl, HB2.out⟩
        · have HSTEP := Lib.hid (step_of (sq := sq) HXY.out HP.out (by have := H12.out; omega) (by have := H12.out; omega) HOK.out hmem)
          rw [decide_eq_false hmem] at HLK
          clear hmem
          go_wp2_with (first | (at_mapUpdate; refine wpList_mapUpdate_own _ rfl _ _ _ 106 rfl 3 4 keyInt Tryd.underlying106 _ (w.heap.size + 1) k D rfl HM2.out (by have := HN.out; unfold maxLen; omega) _ _ _ rfl rfl HKEY.out _ [] (plainElem_bool Tryd.underlying4 true) ?_) | fail)
          intro w4 hown4 hgrow4
          have HM4 := Lib.hid hown4
          have HG4 := Lib.hid hgrow4
          clear hown4 hgrow4 d0 d1 d2 hltx HLK
          go_wp2_with fail
          go_roundw
          case rel =>
            have hsz := HB2.out.size
            have hM1 := HM2.out.lt
            refine ⟨k + 1, _, x, by omega, rfl, by go_num, Lib.hid (last_next HXY.out), Lib.hid (fun j hj => ?_), HM4, Lib.hid (take_ids hkl HXY.out ▸ HSN.out.put y), Lib.hid (HB2.out.grown HG4.out hsz (fun j e => by cases e; omega)), Lib.hid (HBx2.out.grown HG4.out (by simp))⟩
            by_cases hjk : j = k
            · subst hjk
              exact HSTEP.out
            · exact HS.out j (by omega)
          case measure => simp [intOf]; omega
      · have HNO := Lib.hid (lok_not (up := true) (ep := ep) (sq := sq) hkl (fun hs => hok (step_at HXY.out HP.out hs).2.2.1))
        have HOK := Lib.hid hok
        clear hok
        go_wp2_with fail
        refine (flyOk_no x y z _ HOK.out).mono ?_
        rintro e w2 ⟨rfl, hb2⟩
        have HB2 := Lib.hid (bAfter HB.out (bAfter HB1.out hb2 (by simp)) HB.out.size)
        clear hb2
        go_wp2_with fail
        go_ret
        exact ⟨by rw [HNO.out]; rfl, HB2.out⟩
    · have HALL := Lib.hid (lokB_true (HW.out.2 ⟨⟨HN.out.1, HN.out.2.1, HN.out.2.2.1, HN.out.2.2.2.1, by have := HL.out; have := HN.out.2.2.2.2; omega, fun _ => by trivial⟩, fun j hj => HS.out j (by have := HL.out; omega)⟩))
      go_wp2_with fail
      go_ret
      exact ⟨by rw [HALL.out]; rfl, HB.out⟩

theorem linkOk_ep (w : World) (a : Option Addr) (len cap : Nat) (up : Bool) (ep sq : Int) (h : ep < 0 ∨ 60000 < ep) :
    Calls Tryd.prog 52 #[.agg #[.bool up, .int .i64 ep, .int .i64 sq, .slice a len cap]] w fun e w' => e = .returned (.bool false) ∧ Below w.heap.size w w' := by
  by_cases h0 : ep < 0
  · clear h
    go_enter Tryd.func52, Tryd.ntmps52
    go_wp2
    go_ret
    exact ⟨rfl, bOne _ _⟩
  · have h1 : 60000 < ep := by omega
    have hd : decide (ep < 0) = false := by simp; omega
    clear h h0
    go_enter Tryd.func52, Tryd.ntmps52
    go_wp2
    go_ret
    exact ⟨rfl, bOne _ _⟩
theorem linkOk_sq (w : World) (a : Option Addr) (len cap : Nat) (up : Bool) (ep sq : Int) (e0 : 0 ≤ ep) (e1 : ep ≤ 60000) (h : sq < 0 ∨ 60000 < sq) :
    Calls Tryd.prog 52 #[.agg #[.bool up, .int .i64 ep, .int .i64 sq, .slice a len cap]] w fun e w' => e = .returned (.bool false) ∧ Below w.heap.size w w' := by
  have hd1 : decide (ep < 0) = false := by simp; omega
  have hd2 : decide (60000 < ep) = false := by simp; omega
  by_cases h0 : sq < 0
  · clear h
    go_enter Tryd.func52, Tryd.ntmps52
    go_wp2
    go_ret
    exact ⟨rfl, bOne _ _⟩
  · have h1 : 60000 < sq := by omega
    have hd : decide (sq < 0) = false := by simp; omega
    clear h h0
    go_enter Tryd.func52, Tryd.ntmps52
    go_wp2
    go_ret
    exact ⟨rfl, bOne _ _⟩
theorem linkOk_len (w : World) (a : Option Addr) (len cap : Nat) (up : Bool) (ep sq : Int) (e0 : 0 ≤ ep) (e1 : ep ≤ 60000) (s0 : 0 ≤ sq) (s1 : sq ≤ 60000) (h : 8 < (len : Int)) :
    Calls Tryd.prog 52 #[.agg #[.bool up, .int .i64 ep, .int .i64 sq, .slice a len cap]] w fun e w' => e = .returned (.bool false) ∧ Below w.heap.size w w' := by
  have hd1 : decide (ep < 0) = false := by simp; omega
  have hd2 : decide (60000 < ep) = false := by simp; omega
  have hd3 : decide (sq < 0) = false := by simp; omega
  have hd4 : decide (60000 < sq) = false := by simp; omega
  go_enter Tryd.func52, Tryd.ntmps52
  go_wp2
  go_ret
  exact ⟨rfl, bOne _ _⟩
theorem linkOk_up (w : World) (a : Option Addr) (len cap : Nat) (ep sq : Int) (e0 : 0 ≤ ep) (e1 : ep ≤ 60000) (s0 : 0 ≤ sq) (s1 : sq ≤ 60000) (h : (len : Int) ≤ 8) (h1 : 0 < (len : Int)) :
    Calls Tryd.prog 52 #[.agg #[.bool false, .int .i64 ep, .int .i64 sq, .slice a len cap]] w fun e w' => e = .returned (.bool false) ∧ Below w.heap.size w w' := by
  have hd1 : decide (ep < 0) = false := by simp; omega
  have hd2 : decide (60000 < ep) = false := by simp; omega
  have hd3 : decide (sq < 0) = false := by simp; omega
  have hd4 : decide (60000 < sq) = false := by simp; omega
  have hd5 : decide (8 < (len : Int)) = false := by simp; omega
  go_enter Tryd.func52, Tryd.ntmps52
  go_wp2
  go_ret
  exact ⟨rfl, bOne _ _⟩

theorem linkOk_any (w : World) (a : Option Addr) (len cap : Nat) (up : Bool) (ep sq : Int) (l : List Y) (h : YIs w.heap.size w a len l) :
    Calls Tryd.prog 52 #[.agg #[.bool up, .int .i64 ep, .int .i64 sq, .slice a len cap]] w fun e w' => e = .returned (.bool (lokB up ep sq l)) ∧ Below w.heap.size w w' := by
  have hl := h.hlen
  by_cases h0 : ep < 0 ∨ 60000 < ep
  · rw [lokB_false (fun hw => by have := hw.e0; have := hw.e1; omega)]
    exact linkOk_ep w a len cap up ep sq h0
  by_cases h1 : sq < 0 ∨ 60000 < sq
  · rw [lokB_false (fun hw => by have := hw.s0; have := hw.s1; omega)]
    exact linkOk_sq w a len cap up ep sq (by omega) (by omega) h1
  by_cases h2 : 8 < len
  · rw [lokB_false (fun hw => by have := hw.len; omega)]
    exact linkOk_len w a len cap up ep sq (by omega) (by omega) (by omega) (by omega) (by omega)
  · by_cases h3 : 0 < len
    · cases up with
      | true => exact linkOk_loop w a len cap ep sq l h (by omega) (by omega) (by omega) (by omega) (by omega) (by omega)
      | false =>
        rw [lokB_false (fun hw => by have := hw.hup (by omega); cases this)]
        exact linkOk_up w a len cap ep sq (by omega) (by omega) (by omega) (by omega) (by omega) (by omega)
    · have h4 : len = 0 := by omega
      subst h4
      have h5 : l = [] := List.eq_nil_of_length_eq_zero hl
      subst h5
      rw [lokB_true ⟨by omega, by omega, by omega, by omega, by simp, fun h => by simp at h, List.Pairwise.nil, fun t ht => by cases ht⟩]
      exact linkOk_none w a cap up ep sq (by omega) (by omega) (by omega) (by omega)
end Go.Proofs.YtkndpkingmemoaaDoor.Lnk
namespace Go.Proofs.YtkndpkingmemoaaDoor.Lnk
open Go.RowKit
set_option linter.unusedVariables false

theorem in_yes (a lo hi : Int) (w : World) (h : lo ≤ a) (h2 : a ≤ hi) :
    Calls Tryd.prog 50 #[.int .i64 a, .int .i64 lo, .int .i64 hi] w fun e w' => e = .returned (.bool true) ∧ w = w' := by
  go_enter Tryd.func50, Tryd.ntmps50
  go_wp2
  go_ret
  exact ⟨rfl, rfl⟩
theorem in_no (a lo hi : Int) (w : World) (h : a < lo ∨ hi < a) :
    Calls Tryd.prog 50 #[.int .i64 a, .int .i64 lo, .int .i64 hi] w fun e w' => e = .returned (.bool false) ∧ w = w' := by
  by_cases h1 : a < lo
  · have h2 : decide (lo ≤ a) = false := by simp; omega
    clear h
    go_enter Tryd.func50, Tryd.ntmps50
    go_wp2
    go_ret
    exact ⟨rfl, rfl⟩
  · have h2 : lo ≤ a := by omega
    have h3 : decide (a ≤ hi) = false := by simp; omega
    clear h
    go_enter Tryd.func50, Tryd.ntmps50
    go_wp2
    go_ret
    exact ⟨rfl, rfl⟩

set_option maxRecDepth 100000 in
set_option maxHeartbeats 1000000 in
theorem specLinkOk_any (w : World) (a : Option Addr) (len cap : Nat) (up : Bool) (ep sq : Int) (l : List Y) (h : YIs w.heap.size w a len l) :
    Calls Tryd.prog 75 #[.agg #[.bool up, .int .i64 ep, .int .i64 sq, .slice a len cap]] w fun e w' => e = .returned (.bool (lokB up ep sq l)) ∧ Below w.heap.size w w' := by
  have HBX := Lib.hid (bOne w (.cells #[.bool up, .int .i64 ep, .int .i64 sq, .slice a len cap] 44))
  have HT := Lib.hid h
  have HL := Lib.hid h.hlen
  have hle := h.le
  unfold maxLen at hle
  have HA := Lib.hid (B4.new w up ep sq (.slice a len cap) 44)
  have HW := Lib.hid (lok_iff up ep sq l)
  clear h
  go_enter Tryd.func75, Tryd.ntmps75
  go_wp2_with fail
  go_loopw [3, 4] (fun pv i wr => ∃ (k : Nat) (p : Int), k ≤ len ∧ k ≤ 9 ∧ pv = .int .i64 p ∧ i = .int .i64 k ∧ Hid (lastS l k = p) ∧ Hid (∀ j, j < k → stepOk sq l j) ∧ Hid (Below w.heap.size w wr) ∧ Hid (B4 wr w.heap.size up ep sq (.slice a len cap))) (fun _ i _ => 9 - (intOf i).toNat)
  case atStart => exact ⟨0, 0, by omega, by omega, rfl, rfl, Lib.hid rfl, Lib.hid (by omega), HBX, HA⟩
  case round =>
    obtain ⟨k, p, hk, hk9, rfl, rfl, HP, HS, HB, HBx⟩ := hrel
    obtain ⟨c0, c1, c2, c3, hltw⟩ := HBx.out.cells
    by_cases hgo : (k : Int) < (len : Int) ∧ (k : Int) ≤ 8
    · obtain ⟨hlt, hk8⟩ := hgo
      have hkl : k < l.length := by have := HL.out; omega
      obtain ⟨b, off, rfl, hbw, cx, cy, cz⟩ := (HT.out.below HB.out).cell k hkl
      obtain ⟨x, hx⟩ : ∃ x, x = l[k].1 := ⟨_, rfl⟩
      obtain ⟨y, hy⟩ : ∃ y, y = l[k].2.1 := ⟨_, rfl⟩
      obtain ⟨z, hz⟩ : ∃ z, z = l[k].2.2 := ⟨_, rfl⟩
      have hxy : l.getD k (0, 0, 0) = (x, y, z) := by rw [hx, hy, hz, getD_at hkl]
      rw [← hx] at cx
      rw [← hy] at cy
      rw [← hz] at cz
      have HXY := Lib.hid hxy
      clear hx hy hz hxy
      have HB1 := Lib.hid (bOne wr (.cells #[.int .i64 x, .int .i64 y, .int .i64 z] 86))
      have HX1 := Lib.hid (Bf.new wr x y z 86)
      have HBx1 := Lib.hid (HBx.out.below HB1.out)
      have HBB1 := Lib.hid (bAfter HB.out HB1.out HB.out.size)
      by_cases h1 : x ≤ p
      · have HNO := Lib.hid (lok_not (up := up) (ep := ep) (sq := sq) hkl (fun hs => by have := (step_at HXY.out HP.out hs).1; omega))
        go_wp2_with fail
        go_ret
        exact ⟨by rw [HNO.out]; rfl, HBB1.out⟩
      have hd1 : decide (x ≤ p) = false := by simp; omega
      by_cases h2 : sq < x
      · have HNO := Lib.hid (lok_not (up := up) (ep := ep) (sq := sq) hkl (fun hs => by have := (step_at HXY.out HP.out hs).2.1; omega))
        go_wp2_with fail
        go_ret
        exact ⟨by rw [HNO.out]; rfl, HBB1.out⟩
      have hd2 : decide (sq < x) = false := by simp; omega
      have H12 := Lib.hid (And.intro h1 h2)
      clear h1 h2
      by_cases h3 : y < 1 ∨ 9999 < y
      · have HNO := Lib.hid (lok_not (up := up) (ep := ep) (sq := sq) hkl (fun hs => by have h4 : 1 ≤ y := (step_at HXY.out HP.out hs).2.2.1.1; have h5 : y ≤ 9999 := (step_at HXY.out HP.out hs).2.2.1.2.1; omega))
        have H3 := Lib.hid h3
        clear h3
        go_wp2_with fail
        refine (in_no y 1 9999 _ H3.out).mono ?_
        rintro e w' ⟨rfl, rfl⟩
        go_wp2_with fail
        go_ret
        exact ⟨by rw [HNO.out]; rfl, HBB1.out⟩
      have H3 := Lib.hid (show 1 ≤ y ∧ y ≤ 9999 by omega)
      clear h3
      by_cases h4 : z < 0 ∨ 2000000000 < z
      · have HNO := Lib.hid (lok_not (up := up) (ep := ep) (sq := sq) hkl (fun hs => by have h4 : 0 ≤ z := (step_at HXY.out HP.out hs).2.2.1.2.2.1; have h5 : z ≤ 2000000000 := (step_at HXY.out HP.out hs).2.2.1.2.2.2; omega))
        have H4 := Lib.hid h4
        clear h4
        go_wp2_with fail
        refine (in_yes y 1 9999 _ H3.out.1 H3.out.2).mono ?_
        rintro e w' ⟨rfl, rfl⟩
        go_wp2_with fail
        refine (in_no z 0 2000000000 _ H4.out).mono ?_
        rintro e w' ⟨rfl, rfl⟩
        go_wp2_with fail
        go_ret
        exact ⟨by rw [HNO.out]; rfl, HBB1.out⟩
      have HOK := Lib.hid (show fOk (x, y, z) from ⟨H3.out.1, H3.out.2, by simp only; omega, by simp only; omega⟩)
      have H4 := Lib.hid (show 0 ≤ z ∧ z ≤ 2000000000 by omega)
      clear h4
      go_wp2_with fail
      refine (in_yes y 1 9999 _ H3.out.1 H3.out.2).mono ?_
      rintro e w' ⟨rfl, rfl⟩
      go_wp2_with fail
      refine (in_yes z 0 2000000000 _ H4.out.1 H4.out.2).mono ?_
      rintro e w' ⟨rfl, rfl⟩
      go_wp2_with fail
      go_loopw [6] (fun i wr' => ∃ j : Nat, j ≤ k ∧ i = .int .i64 j ∧ Hid (∀ i, i < j → (l.getD i (0, 0, 0)).2.1 ≠ y) ∧ Hid (Below w.heap.size w wr') ∧ Hid (B4 wr' w.heap.size up ep sq (.slice (some ⟨b, off, none⟩) len cap)) ∧ Hid (Bf wr' wr.heap.size (x, y, z))) (fun i _ => k - (intOf i).toNat)
      case atStart => exact ⟨0, by omega, rfl, Lib.hid (by omega), HBB1, HBx1, HX1⟩
      case round =>
        obtain ⟨j, hj, rfl, HNE, HBI, HBxI, HXI⟩ := hrel
        clear c0 c1 c2 c3 hltw cx cy cz
        obtain ⟨c0, c1, c2, c3, hltw⟩ := HBxI.out.cells
        obtain ⟨d0, d1, d2, hltx⟩ := HXI.out
        by_cases hjk : (j : Int) < (k : Int)
        · obtain ⟨b', off', e', hbw', px, py, pz⟩ := (HT.out.below HBI.out).cell j (by omega)
          obtain ⟨rfl, rfl⟩ : b = b' ∧ off = off' := by simpa using e'
          obtain ⟨y', hy'⟩ : ∃ y, y = l[j].2.1 := ⟨_, rfl⟩
          rw [← hy'] at py
          have hyg : (l.getD j (0, 0, 0)).2.1 = y' := by rw [hy', getD_at (by omega)]
          have HYG := Lib.hid hyg
          have hjl : (j : Int) < (len : Int) := by omega
          clear hyg hy' e' px pz
          by_cases hyy : y' = y
          · have HNO := Lib.hid (lok_not (up := up) (ep := ep) (sq := sq) hkl (fun hs => (step_at HXY.out HP.out hs).2.2.2 ((seen_iff hkl y).2 ⟨j, by omega, by rw [HYG.out, hyy]⟩)))
            have hb1 : (y' == y) = true := by simpa using hyy
            clear hyy
            go_wp2_with fail
            go_quiet (fail)
            go_wp2_with fail
            go_ret
            exact ⟨by rw [HNO.out]; rfl, below_drewN HBI.out _⟩
          · have HYY := Lib.hid hyy
            have hb1 : (y' == y) = false := by simpa using hyy
            clear hyy
            go_wp2_with fail
            go_quiet (fail)
            go_wp2_with fail
            go_roundw
            case rel =>
              refine ⟨j + 1, by omega, by go_num, Lib.hid (fun i hi => ?_), Lib.hid (below_drewN HBI.out _), Lib.hid ⟨HBxI.out.c0, HBxI.out.c1, HBxI.out.c2, HBxI.out.c3, HBxI.out.lt⟩, Lib.hid ⟨HXI.out.c0, HXI.out.c1, HXI.out.c2, HXI.out.lt⟩⟩
              by_cases hij : i = j
              · subst hij; rw [HYG.out]; exact HYY.out
              · exact HNE.out i (by omega)
            case measure => simp [intOf]; omega
        · have HSTEP := Lib.hid (step_of (sq := sq) HXY.out HP.out (by have := H12.out; omega) (by have := H12.out; omega) HOK.out (fun hm => by
            obtain ⟨i, hi, he⟩ := (seen_iff hkl y).1 hm
            exact HNE.out i (by omega) he))
          go_wp2_with fail
          go_roundw
          case rel =>
            refine ⟨k + 1, x, by omega, by omega, rfl, by go_num, Lib.hid (last_next HXY.out), Lib.hid (fun i hi => ?_), HBI, HBxI⟩
            by_cases hij : i = k
            · subst hij; exact HSTEP.out
            · exact HS.out i (by omega)
          case measure => simp [intOf]; omega
    · by_cases hkl : (k : Int) < (len : Int)
      · have hk9' : k = 9 := by omega
        subst hk9'
        clear hgo
        by_cases hn : 0 ≤ ep ∧ ep ≤ 60000
        · have HN := Lib.hid hn
          clear hn
          by_cases hs : 0 ≤ sq ∧ sq ≤ 60000
          · have HQ := Lib.hid hs
            clear hs
            have HV := Lib.hid (lokB_false (up := up) (ep := ep) (sq := sq) (l := l) (fun hw => by have := hw.len; have := HL.out; omega))
            have d60 : decide ((len : Int) ≤ 8) = false := by simp; omega
            go_wp2_with fail
            refine (in_yes ep 0 60000 _ HN.out.1 HN.out.2).mono ?_
            rintro e w' ⟨rfl, rfl⟩
            go_wp2_with fail
            refine (in_yes sq 0 60000 _ HQ.out.1 HQ.out.2).mono ?_
            rintro e w' ⟨rfl, rfl⟩
            go_wp2_with fail
            go_ret
            exact ⟨by rw [HV.out]; rfl, HB.out⟩
          · have HQ := Lib.hid (show sq < 0 ∨ 60000 < sq by omega)
            have HV := Lib.hid (lokB_false (up := up) (ep := ep) (sq := sq) (l := l) (fun hw => by have := hw.s0; have := hw.s1; have := HQ.out; omega))
            clear hs
            go_wp2_with fail
            refine (in_yes ep 0 60000 _ HN.out.1 HN.out.2).mono ?_
            rintro e w' ⟨rfl, rfl⟩
            go_wp2_with fail
            refine (in_no sq 0 60000 _ HQ.out).mono ?_
            rintro e w' ⟨rfl, rfl⟩
            go_wp2_with fail
            go_ret
            exact ⟨by rw [HV.out]; rfl, HB.out⟩
        · have HN := Lib.hid (show ep < 0 ∨ 60000 < ep by omega)
          have HV := Lib.hid (lokB_false (up := up) (ep := ep) (sq := sq) (l := l) (fun hw => by have := hw.e0; have := hw.e1; have := HN.out; omega))
          clear hn
          go_wp2_with fail
          refine (in_no ep 0 60000 _ HN.out).mono ?_
          rintro e w' ⟨rfl, rfl⟩
          go_wp2_with fail
          go_ret
          exact ⟨by rw [HV.out]; rfl, HB.out⟩
      · have hkk : k = len := by omega
        clear hgo
        subst hkk
        by_cases hn : 0 ≤ ep ∧ ep ≤ 60000
        · have HN := Lib.hid hn
          clear hn
          by_cases hs : 0 ≤ sq ∧ sq ≤ 60000
          · have HQ := Lib.hid hs
            clear hs
            by_cases h60 : (k : Int) ≤ 8
            · cases up with
              | true =>
                have HV := Lib.hid (lokB_true ((lok_iff true ep sq l).2 ⟨⟨HN.out.1, HN.out.2, HQ.out.1, HQ.out.2, by have := HL.out; omega, fun _ => rfl⟩, fun j hj => HS.out j (by have := HL.out; omega)⟩))
                go_wp2_with fail
                refine (in_yes ep 0 60000 _ HN.out.1 HN.out.2).mono ?_
                rintro e w' ⟨rfl, rfl⟩
                go_wp2_with fail
                refine (in_yes sq 0 60000 _ HQ.out.1 HQ.out.2).mono ?_
                rintro e w' ⟨rfl, rfl⟩
                go_wp2_with fail
                go_ret
                exact ⟨by rw [HV.out]; rfl, HB.out⟩
              | false =>
                have HV := Lib.hid (show lokB false ep sq l = ((k : Int) == 0) by
                  by_cases hz : k = 0
                  · rw [lokB_true ((lok_iff false ep sq l).2 ⟨⟨HN.out.1, HN.out.2, HQ.out.1, HQ.out.2, by have := HL.out; omega, fun h => by have := HL.out; omega⟩, fun j hj => HS.out j (by have := HL.out; omega)⟩), hz]; rfl
                  · rw [lokB_false (fun hw => by have := hw.hup (by have := HL.out; omega); cases this)]
                    symm; simp; omega)
                go_wp2_with fail
                refine (in_yes ep 0 60000 _ HN.out.1 HN.out.2).mono ?_
                rintro e w' ⟨rfl, rfl⟩
                go_wp2_with fail
                refine (in_yes sq 0 60000 _ HQ.out.1 HQ.out.2).mono ?_
                rintro e w' ⟨rfl, rfl⟩
                go_wp2_with fail
                go_ret
                exact ⟨by rw [HV.out]; rfl, HB.out⟩
            · have HV := Lib.hid (lokB_false (up := up) (ep := ep) (sq := sq) (l := l) (fun hw => by have := hw.len; have := HL.out; omega))
              have d60 : decide ((k : Int) ≤ 8) = false := by simp; omega
              clear h60
              go_wp2_with fail
              refine (in_yes ep 0 60000 _ HN.out.1 HN.out.2).mono ?_
              rintro e w' ⟨rfl, rfl⟩
              go_wp2_with fail
              refine (in_yes sq 0 60000 _ HQ.out.1 HQ.out.2).mono ?_
              rintro e w' ⟨rfl, rfl⟩
              go_wp2_with fail
              go_ret
              exact ⟨by rw [HV.out]; rfl, HB.out⟩
          · have HQ := Lib.hid (show sq < 0 ∨ 60000 < sq by omega)
            have HV := Lib.hid (lokB_false (up := up) (ep := ep) (sq := sq) (l := l) (fun hw => by have := hw.s0; have := hw.s1; have := HQ.out; omega))
            clear hs
            go_wp2_with fail
            refine (in_yes ep 0 60000 _ HN.out.1 HN.out.2).mono ?_
            rintro e w' ⟨rfl, rfl⟩
            go_wp2_with fail
            refine (in_no sq 0 60000 _ HQ.out).mono ?_
            rintro e w' ⟨rfl, rfl⟩
            go_wp2_with fail
            go_ret
            exact ⟨by rw [HV.out]; rfl, HB.out⟩
        · have HN := Lib.hid (show ep < 0 ∨ 60000 < ep by omega)
          have HV := Lib.hid (lokB_false (up := up) (ep := ep) (sq := sq) (l := l) (fun hw => by have := hw.e0; have := hw.e1; have := HN.out; omega))
          clear hn
          go_wp2_with fail
          refine (in_no ep 0 60000 _ HN.out).mono ?_
          rintro e w' ⟨rfl, rfl⟩
          go_wp2_with fail
          go_ret
          exact ⟨by rw [HV.out]; rfl, HB.out⟩
end Go.Proofs.YtkndpkingmemoaaDoor.Lnk
