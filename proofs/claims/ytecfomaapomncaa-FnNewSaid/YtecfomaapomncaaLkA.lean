/-
  Rows of flies and of ints, and a link's box, in memory: read, owned, kept.
-/
import Derived.Test.YtecfomaapomncaaProg
import Derived.WalkKit
import Derived.WalkSpells
import Derived.WalkLawsBesides
import Derived.Lib.Hide
import Derived.Deep.QuietTactic
import Derived.BigQuiet
import Derived.Below
import Derived.OwnWalk
import Derived.Maps.AppendAt
import Derived.Deep.RegionHeld3
import Derived.Laws.AppendOwnNone
import Derived.Deep.AppendLies
import Derived.ArgAppend
namespace Go.Proofs.Ytecfomaapomncaa.Lnk
open Go.RowKit
set_option linter.unusedVariables false

/-- a fly: its number, its id, until when -/
abbrev Y := Int × Int × Int

theorem bOne (w : World) (o : Obj) : Below w.heap.size w (w.alloc o) := (Below.refl _ _).alloc (Nat.le_refl _) _
theorem bAfter {B : Nat} {a w w' : World} (h : Below B a w) (h2 : Below w.heap.size w w') (hB : B ≤ w.heap.size) : Below B a w' := h.trans (h2.mono hB)
theorem grown_of_below {w w' : World} (h : Below w.heap.size w w') (r : Option Nat) : w.grownBy w' r := ⟨h.os, h.tape, h.output, h.size, fun k hk _ => h.block k hk⟩
theorem below_keep {B : Nat} {w1 w2 : World} (hb : Below w1.heap.size w1 w2) (hB : B ≤ w1.heap.size) {a : Addr} {v : Value} (hlt : a.block < B) (h : w1.cell? a = some v) : w2.cell? a = some v :=
  (hb.cell (p := a) (by omega)).trans h
theorem below_drew' {B : Nat} {a w : World} (h : Below B a w) : Below B a w.drew := ⟨h.os, h.tape, h.output, h.size, h.block⟩
theorem below_drewN {B : Nat} {a w : World} (h : Below B a w) (n : Nat) : Below B a (w.drewN n) := ⟨h.os, h.tape, h.output, h.size, h.block⟩
theorem low_grown {W w w1 : World} {r : Option Nat} (h : Below W.heap.size W w) (hg : w.grownBy w1 r) (hr : ∀ j, r = some j → W.heap.size ≤ j) : Below W.heap.size W w1 := h.grown hg h.size hr
theorem low_alloc {W w : World} (h : Below W.heap.size W w) (o : Obj) : Below W.heap.size W (w.alloc o) := h.alloc h.size _
theorem low_after {W w w1 : World} (h : Below W.heap.size W w) (h2 : Below w.heap.size w w1) : Below W.heap.size W w1 := bAfter h h2 h.size
theorem grownBy_drew' (w : World) (r : Option Nat) : w.grownBy w.drew r := ⟨rfl, rfl, rfl, Nat.le_refl _, fun _ _ _ => rfl⟩

/-- a slice of flies, as read: what lies in it, and that it lies below block B -/
structure YIs (B : Nat) (w : World) (a : Option Addr) (len : Nat) (l : List Y) : Prop where
  hlen : l.length = len
  le : len ≤ maxLen
  cell : ∀ k (h : k < l.length), ∃ b off, a = some ⟨b, off, none⟩ ∧ b < B ∧ w.cell? ⟨b, off + k * 3, none⟩ = some (.int .i64 l[k].1) ∧ w.cell? ⟨b, off + k * 3 + 1, none⟩ = some (.int .i64 l[k].2.1) ∧ w.cell? ⟨b, off + k * 3 + 2, none⟩ = some (.int .i64 l[k].2.2)
theorem YIs.below {B : Nat} {w w' : World} {a : Option Addr} {len : Nat} {l : List Y} (h : YIs B w a len l) (hb : Below B w w') : YIs B w' a len l :=
  ⟨h.hlen, h.le, fun k hk => by
    obtain ⟨b, off, e, hlt, h0, h1, h2⟩ := h.cell k hk
    exact ⟨b, off, e, hlt, (hb.cell (p := ⟨b, off + k * 3, none⟩) hlt).trans h0, (hb.cell (p := ⟨b, off + k * 3 + 1, none⟩) hlt).trans h1, (hb.cell (p := ⟨b, off + k * 3 + 2, none⟩) hlt).trans h2⟩⟩
theorem YIs.mono {B B' : Nat} {w : World} {a : Option Addr} {len : Nat} {l : List Y} (h : YIs B w a len l) (hB : B ≤ B') : YIs B' w a len l :=
  ⟨h.hlen, h.le, fun k hk => by
    obtain ⟨b, off, e, hlt, h0, h1⟩ := h.cell k hk
    exact ⟨b, off, e, Nat.lt_of_lt_of_le hlt hB, h0, h1⟩⟩
theorem YIs.here {w w' : World} {a : Option Addr} {len : Nat} {l : List Y} (h : YIs w.heap.size w a len l) (hb : Below w.heap.size w w') : YIs w'.heap.size w' a len l := (h.below hb).mono hb.size
theorem YIs.nil (B : Nat) (w : World) (a : Option Addr) : YIs B w a 0 [] := ⟨rfl, by unfold maxLen; omega, fun k hk => by simp at hk⟩

/-- the cells of flies -/
def flat (l : List Y) : List Value := l.flatMap fun t => [.int .i64 t.1, .int .i64 t.2.1, .int .i64 t.2.2]
theorem flat_cons (t : Y) (l : List Y) : flat (t :: l) = .int .i64 t.1 :: .int .i64 t.2.1 :: .int .i64 t.2.2 :: flat l := rfl
theorem flat_append (l m : List Y) : flat (l ++ m) = flat l ++ flat m := by simp [flat]
theorem flat_snoc (l : List Y) (t : Y) : flat (l ++ [t]) = flat l ++ [.int .i64 t.1, .int .i64 t.2.1, .int .i64 t.2.2] := by rw [flat_append]; rfl
theorem flat_len : ∀ l : List Y, (flat l).length = l.length * 3
  | [] => rfl
  | t :: l => by rw [flat_cons, List.length_cons, List.length_cons, List.length_cons, flat_len l, List.length_cons]; omega
theorem flat_get : ∀ (l : List Y) (k : Nat) (h : k < l.length), (flat l)[k * 3]? = some (.int .i64 l[k].1) ∧ (flat l)[k * 3 + 1]? = some (.int .i64 l[k].2.1) ∧ (flat l)[k * 3 + 2]? = some (.int .i64 l[k].2.2)
  | [], k, h => by simp at h
  | t :: l, 0, _ => ⟨rfl, rfl, rfl⟩
  | t :: l, k + 1, h => by
    have e : (k + 1) * 3 = k * 3 + 1 + 1 + 1 := by omega
    rw [e, flat_cons]
    simp only [List.getElem?_cons_succ, List.getElem_cons_succ]
    exact flat_get l k (by simpa using h)
theorem flat_set : ∀ (l : List Y) (k : Nat) (x y z : Int), k < l.length → (((flat l).set (k * 3) (.int .i64 x)).set (k * 3 + 1) (.int .i64 y)).set (k * 3 + 2) (.int .i64 z) = flat (l.set k (x, y, z))
  | [], k, _, _, _, h => by simp at h
  | t :: l, 0, x, y, z, _ => rfl
  | t :: l, k + 1, x, y, z, h => by
    have e : (k + 1) * 3 = k * 3 + 1 + 1 + 1 := by omega
    rw [e, flat_cons]
    simp only [List.set_cons_succ]
    rw [flat_set l k x y z (by simpa using h), flat_cons]
theorem flat_one (l : List Y) : ∀ u ∈ flat l, u.oneCell' = true := by
  intro u hu
  obtain ⟨t, _, ht⟩ := List.mem_flatMap.1 hu
  simp at ht
  rcases ht with rfl | rfl | rfl <;> rfl
theorem flat_made (n : Nat) : (madeCells (Value.agg #[.int .i64 0, .int .i64 0, .int .i64 0]).cells (n * 3)).toList = flat (List.replicate n (0, 0, 0)) := by
  apply List.ext_getElem?
  intro j
  by_cases hj : j < n * 3
  · have h1 : (flat (List.replicate n (0, 0, 0)))[j]? = some (.int .i64 0) := by
      have hk : j / 3 < (List.replicate n ((0 : Int), (0 : Int), (0 : Int))).length := by simp; omega
      have := flat_get _ (j / 3) hk
      simp only [List.getElem_replicate] at this
      have h3 : j % 3 = 0 ∨ j % 3 = 1 ∨ j % 3 = 2 := by omega
      rcases h3 with h3 | h3 | h3
      · rw [show j / 3 * 3 = j by omega] at this; exact this.1
      · rw [show j / 3 * 3 + 1 = j by omega] at this; exact this.2.1
      · rw [show j / 3 * 3 + 2 = j by omega] at this; exact this.2.2
    rw [h1]
    have h3 : j % 3 = 0 ∨ j % 3 = 1 ∨ j % 3 = 2 := by omega
    rcases h3 with h3 | h3 | h3 <;> simp [madeCells, Value.cells, hj, h3]
  · rw [List.getElem?_eq_none (by simp [madeCells]; omega), List.getElem?_eq_none (by rw [flat_len]; simp; omega)]
theorem YIs.flat {B : Nat} {w : World} {ad : Addr} {len : Nat} {l : List Y} (h : YIs B w (some ad) len l) : ∀ j u, (flat l)[j]? = some u → w.cell? (ad.add j) = some u := by
  intro j u hu
  have hj : j < l.length * 3 := by
    have := (List.getElem?_eq_some_iff.1 hu).1
    rwa [flat_len] at this
  obtain ⟨b, off, e, _, c0, c1, c2⟩ := h.cell (j / 3) (by omega)
  injection e with e
  subst e
  have hg := flat_get l (j / 3) (by omega)
  have hadd : (⟨b, off, none⟩ : Addr).add j = ⟨b, off + j, none⟩ := by unfold Addr.add; split <;> simp_all
  rw [hadd]
  have h2 : j % 3 = 0 ∨ j % 3 = 1 ∨ j % 3 = 2 := by omega
  rcases h2 with h2 | h2 | h2
  · have e2 : j / 3 * 3 = j := by omega
    rw [e2] at c0 hg
    rw [hg.1] at hu
    rw [c0]
    exact hu
  · have e2 : j / 3 * 3 + 1 = j := by omega
    have h1 := hg.2.1
    rw [e2] at h1
    rw [Nat.add_assoc, e2] at c1
    rw [h1] at hu
    rw [c1]
    exact hu
  · have e2 : j / 3 * 3 + 2 = j := by omega
    have h1 := hg.2.2
    rw [e2] at h1
    rw [Nat.add_assoc, e2] at c2
    rw [h1] at hu
    rw [c2]
    exact hu
theorem YIs.none_nil {B : Nat} {w : World} {len : Nat} {l : List Y} (h : YIs B w none len l) : l = [] ∧ len = 0 := by
  have hl0 : l = [] := by
    cases hc : l with
    | nil => rfl
    | cons t r =>
      obtain ⟨b, off, e, _⟩ := h.cell 0 (by rw [hc]; simp)
      cases e
  subst hl0
  exact ⟨rfl, by have := h.hlen; simpa using this.symm⟩

/-- a slice of flies of the call's own -/
def YOwn (B : Nat) (w : World) (E : TypeId) (v : Value) (l : List Y) : Prop := w.ownsRow B E 3 v l.length (flat l)
theorem YOwn.is {B : Nat} {w : World} {E : TypeId} {a : Option Addr} {len cap : Nat} {l : List Y} (h : YOwn B w E (.slice a len cap) l) : len = l.length ∧ YIs w.heap.size w a l.length l := by
  unfold YOwn at h
  rcases h.2 with ⟨e, h0⟩ | ⟨g, c, cur, e, hb, hg, hn, hm, hs, ht⟩
  · simp only [Value.slice.injEq] at e
    obtain ⟨rfl, rfl, rfl⟩ := e
    exact ⟨h0.symm, rfl, by unfold maxLen; omega, fun k hk => by omega⟩
  · simp only [Value.slice.injEq] at e
    obtain ⟨rfl, rfl, rfl⟩ := e
    refine ⟨rfl, rfl, by omega, fun k hk => ⟨g, 0, rfl, (h.lt g rfl).2, ?_, ?_, ?_⟩⟩
    · rw [Nat.zero_add, h.cellAt _ (by omega)]; exact (flat_get l k hk).1
    · rw [Nat.zero_add, h.cellAt _ (by omega)]; exact (flat_get l k hk).2.1
    · rw [Nat.zero_add, h.cellAt _ (by omega)]; exact (flat_get l k hk).2.2
theorem YOwn.isN {B : Nat} {w : World} {E : TypeId} {a : Option Addr} {n cap : Nat} {l : List Y} (h : YOwn B w E (.slice a n cap) l) : YIs w.heap.size w a n l := by
  have h1 := h.is
  rw [h1.1]
  exact h1.2
theorem YOwn.shape {B : Nat} {w : World} {E : TypeId} {v : Value} {l : List Y} (h : YOwn B w E v l) : ∃ a cap, v = .slice a l.length cap := by
  rcases h.2 with ⟨e, h0⟩ | ⟨g, c, cur, e, _⟩
  · exact ⟨none, 0, by rw [e, h0]⟩
  · exact ⟨_, _, e⟩
theorem YOwn.nilcap {B : Nat} {w : World} {E : TypeId} {a : Option Addr} {n cap : Nat} {l : List Y} (h : YOwn B w E (.slice a n cap) l) : a = none → cap = 0 := by
  rintro rfl
  rcases h.2 with ⟨e, h0⟩ | ⟨g, c, cur, e, _⟩
  · simp only [Value.slice.injEq] at e
    exact e.2.2
  · simp at e
theorem YOwn.set {B : Nat} {w : World} {E : TypeId} {g cap n : Nat} {l : List Y} (h : YOwn B w E (.slice (some ⟨g, 0, none⟩) n cap) l) (k : Nat) (hk : k < l.length) (x y z : Int) :
    YOwn B (((w.setCell ⟨g, k * 3, none⟩ (.int .i64 x)).setCell ⟨g, k * 3 + 1, none⟩ (.int .i64 y)).setCell ⟨g, k * 3 + 2, none⟩ (.int .i64 z)) E (.slice (some ⟨g, 0, none⟩) n cap) (l.set k (x, y, z)) ∧
      w.grownBy (((w.setCell ⟨g, k * 3, none⟩ (.int .i64 x)).setCell ⟨g, k * 3 + 1, none⟩ (.int .i64 y)).setCell ⟨g, k * 3 + 2, none⟩ (.int .i64 z)) (some g) := by
  have hn : n = l.length := h.is.1
  subst hn
  unfold YOwn at *
  have h1 := h.stored (k * 3) (.int .i64 x)
  have h2 := h1.1.stored (k * 3 + 1) (.int .i64 y)
  have h3 := h2.1.stored (k * 3 + 2) (.int .i64 z)
  rw [flat_set l k x y z hk] at h3
  rw [List.length_set]
  exact ⟨h3.1, ((h1.2.trans h2.2).trans h3.2)⟩
theorem YOwn.below {B : Nat} {w w' : World} {E : TypeId} {v : Value} {l : List Y} (h : YOwn B w E v l) (hb : Below w.heap.size w w') : YOwn B w' E v l :=
  World.ownsRow.kept h (grown_of_below hb none) (by
    cases hv : v.ownBlock with
    | none => exact .inl rfl
    | some k => exact .inr (by simp))
theorem YOwn.grown {B : Nat} {w w' : World} {E : TypeId} {v : Value} {l : List Y} {r : Option Nat} (h : YOwn B w E v l) (hg : w.grownBy w' r) (hne : v.ownBlock = none ∨ v.ownBlock ≠ r) : YOwn B w' E v l := World.ownsRow.kept h hg hne
theorem YOwn.cellAt {B : Nat} {w : World} {E : TypeId} {g n cap : Nat} {l : List Y} (h : YOwn B w E (.slice (some ⟨g, 0, none⟩) n cap) l) (k : Nat) (hk : k < l.length) :
    (w.cell? ⟨g, k * 3, none⟩ = some (.int .i64 l[k].1) ∧ w.cell? ⟨g, k * 3 + 1, none⟩ = some (.int .i64 l[k].2.1) ∧ w.cell? ⟨g, k * 3 + 2, none⟩ = some (.int .i64 l[k].2.2)) ∧ w.frozen? ⟨g, k * 3, none⟩ = false ∧ w.frozen? ⟨g, k * 3 + 1, none⟩ = false ∧ w.frozen? ⟨g, k * 3 + 2, none⟩ = false := by
  have hn := h.is.1
  subst hn
  unfold YOwn at h
  exact ⟨⟨by rw [h.cellAt _ (by omega)]; exact (flat_get l k hk).1, by rw [h.cellAt _ (by omega)]; exact (flat_get l k hk).2.1, by rw [h.cellAt _ (by omega)]; exact (flat_get l k hk).2.2⟩, h.frozenAt _, h.frozenAt _, h.frozenAt _⟩
theorem YOwn.base {B B' : Nat} {w : World} {E : TypeId} {v : Value} {l : List Y} (h : YOwn B w E v l) (hB : B' ≤ B) : YOwn B' w E v l := by
  refine ⟨h.1, ?_⟩
  rcases h.2 with e | ⟨g, c, cur, e, hb, r⟩
  · exact .inl e
  · exact .inr ⟨g, c, cur, e, by omega, r⟩
/-- a store into a block below the row's base -/
theorem YOwn.setLow {B : Nat} {w : World} {E : TypeId} {v : Value} {l : List Y} (h : YOwn B w E v l) {p : Addr} (hp : p.block < B) (u : Value) : YOwn B (w.setCell p u) E v l := by
  refine World.ownsRow.kept h (row := some p.block) ⟨rfl, rfl, rfl, by simp, fun k _ hk => heap_setCell_other w p k u (fun e => hk (by simp [e]))⟩ ?_
  cases hv : v.ownBlock with
  | none => exact .inl rfl
  | some k =>
    have := (World.ownsRow.lt h k hv).1
    refine .inr (fun e => ?_)
    injection e with e
    omega
theorem YOwn.drew' {B : Nat} {w : World} {E : TypeId} {v : Value} {l : List Y} (h : YOwn B w E v l) : YOwn B w.drew E v l := h.grown (grownBy_drew' _ none) (by cases hv : v.ownBlock with | none => exact .inl rfl | some k => exact .inr (by simp))
theorem YOwn.nil (B : Nat) (w : World) (E : TypeId) : YOwn B w E (.slice none 0 0) [] := World.ownsRow_nil _ _ _ _
/-- an empty row that is not nil -/
theorem ylit (w : World) (E : TypeId) : YOwn w.heap.size (w.alloc (.cells #[] E)) E (.slice (some ⟨w.heap.size, 0, none⟩) 0 0) [] :=
  World.ownsRow_lit (base := w.heap.size) (e := E) (size := 3) w #[] 0 (Nat.le_refl _) (by unfold maxLen; omega) rfl

/-- a slice of ints of the call's own -/
def IOwn (B : Nat) (w : World) (v : Value) (xs : List Int) : Prop := w.ownsRow B 3 1 v xs.length (xs.map fun x => .int .i64 x)
theorem IOwn.shape {B : Nat} {w : World} {v : Value} {xs : List Int} (h : IOwn B w v xs) : ∃ a cap, v = .slice a xs.length cap := by
  rcases h.2 with ⟨e, h0⟩ | ⟨g, c, cur, e, _⟩
  · exact ⟨none, 0, by rw [e, h0]⟩
  · exact ⟨_, _, e⟩
theorem IOwn.below {B : Nat} {w w' : World} {v : Value} {xs : List Int} (h : IOwn B w v xs) (hb : Below w.heap.size w w') : IOwn B w' v xs :=
  World.ownsRow.kept h (grown_of_below hb none) (by
    cases hv : v.ownBlock with
    | none => exact .inl rfl
    | some k => exact .inr (by simp))
theorem IOwn.grown {B : Nat} {w w' : World} {v : Value} {xs : List Int} {r : Option Nat} (h : IOwn B w v xs) (hg : w.grownBy w' r) (hne : v.ownBlock = none ∨ v.ownBlock ≠ r) : IOwn B w' v xs := World.ownsRow.kept h hg hne
theorem IOwn.base {B B' : Nat} {w : World} {v : Value} {xs : List Int} (h : IOwn B w v xs) (hB : B' ≤ B) : IOwn B' w v xs := by
  refine ⟨h.1, ?_⟩
  rcases h.2 with e | ⟨g, c, cur, e, hb, r⟩
  · exact .inl e
  · exact .inr ⟨g, c, cur, e, by omega, r⟩
theorem IOwn.setLow {B : Nat} {w : World} {v : Value} {xs : List Int} (h : IOwn B w v xs) {p : Addr} (hp : p.block < B) (u : Value) : IOwn B (w.setCell p u) v xs := by
  refine World.ownsRow.kept h (row := some p.block) ⟨rfl, rfl, rfl, by simp, fun k _ hk => heap_setCell_other w p k u (fun e => hk (by simp [e]))⟩ ?_
  cases hv : v.ownBlock with
  | none => exact .inl rfl
  | some k =>
    have := (World.ownsRow.lt h k hv).1
    exact .inr (fun e => by injection e with e; omega)
theorem IOwn.nil (B : Nat) (w : World) : IOwn B w (.slice none 0 0) [] := World.ownsRow_nil _ _ _ _
theorem ilit (w : World) : IOwn w.heap.size (w.alloc (.cells #[] 3)) (.slice (some ⟨w.heap.size, 0, none⟩) 0 0) [] :=
  World.ownsRow_lit (base := w.heap.size) (e := 3) (size := 1) w #[] 0 (Nat.le_refl _) (by unfold maxLen; omega) rfl
/-- a slice of ints that can be read -/
structure IIs (B : Nat) (w : World) (a : Option Addr) (len : Nat) (l : List Int) : Prop where
  hlen : l.length = len
  cell : ∀ k (h : k < l.length), ∃ b off, a = some ⟨b, off, none⟩ ∧ b < B ∧ w.cell? ⟨b, off + k, none⟩ = some (.int .i64 l[k])
theorem IIs.below {B : Nat} {w w' : World} {a : Option Addr} {len : Nat} {l : List Int} (h : IIs B w a len l) (hb : Below B w w') : IIs B w' a len l :=
  ⟨h.hlen, fun k hk => by
    obtain ⟨b, off, e, hlt, h0⟩ := h.cell k hk
    exact ⟨b, off, e, hlt, (hb.cell (p := ⟨b, off + k, none⟩) hlt).trans h0⟩⟩
theorem IIs.mono {B B' : Nat} {w : World} {a : Option Addr} {len : Nat} {l : List Int} (h : IIs B w a len l) (hB : B ≤ B') : IIs B' w a len l :=
  ⟨h.hlen, fun k hk => by
    obtain ⟨b, off, e, hlt, h0⟩ := h.cell k hk
    exact ⟨b, off, e, by omega, h0⟩⟩
theorem IIs.here {w w' : World} {a : Option Addr} {len : Nat} {l : List Int} (h : IIs w.heap.size w a len l) (hb : Below w.heap.size w w') : IIs w'.heap.size w' a len l := (h.below hb).mono hb.size
theorem IOwn.lit {B : Nat} {w : World} {a : Option Addr} {n cap : Nat} {xs : List Int} (h : IOwn B w (.slice a n cap) xs) : n = xs.length ∧ IIs w.heap.size w a xs.length xs := by
  rcases h.2 with ⟨e, h0⟩ | ⟨g, c, cur, e, hb, hg, hn, hm, hs, ht⟩
  · simp only [Value.slice.injEq] at e
    obtain ⟨rfl, rfl, rfl⟩ := e
    exact ⟨h0.symm, rfl, fun k hk => by omega⟩
  · simp only [Value.slice.injEq] at e
    obtain ⟨rfl, rfl, rfl⟩ := e
    refine ⟨rfl, rfl, fun k hk => ⟨g, 0, rfl, lt_of_block hg, ?_⟩⟩
    have h1 := World.ownsRow.cellAt h k (by omega)
    rw [Nat.zero_add, h1, List.getElem?_map, List.getElem?_eq_getElem hk]
    rfl
theorem IOwn.isN {B : Nat} {w : World} {a : Option Addr} {n cap : Nat} {xs : List Int} (h : IOwn B w (.slice a n cap) xs) : IIs w.heap.size w a n xs := by
  have h1 := h.lit
  rw [h1.1]
  exact h1.2
theorem IOwn.set {B : Nat} {w : World} {g cap n : Nat} {l : List Int} (h : IOwn B w (.slice (some ⟨g, 0, none⟩) n cap) l) (k : Nat) (hk : k < l.length) (x : Int) :
    IOwn B (w.setCell ⟨g, k, none⟩ (.int .i64 x)) (.slice (some ⟨g, 0, none⟩) n cap) (l.set k x) ∧ w.grownBy (w.setCell ⟨g, k, none⟩ (.int .i64 x)) (some g) := by
  have hn : n = l.length := h.lit.1
  subst hn
  unfold IOwn at *
  have h1 := World.ownsRow.stored h k (.int .i64 x)
  rw [List.length_set, List.map_set]
  exact h1
theorem IOwn.cellAt {B : Nat} {w : World} {g n cap : Nat} {l : List Int} (h : IOwn B w (.slice (some ⟨g, 0, none⟩) n cap) l) (k : Nat) (hk : k < l.length) :
    w.cell? ⟨g, k, none⟩ = some (.int .i64 l[k]) ∧ w.frozen? ⟨g, k, none⟩ = false := by
  have hn := h.lit.1
  subst hn
  unfold IOwn at h
  refine ⟨?_, h.frozenAt _⟩
  rw [World.ownsRow.cellAt h k (by omega), List.getElem?_map, List.getElem?_eq_getElem hk]
  rfl
theorem own_sep {B Bi : Nat} {w : World} {E : TypeId} {v vi : Value} {S : List Y} {xs : List Int} (hE : E ≠ 3) (h : YOwn B w E v S) (hi : IOwn Bi w vi xs) : vi.ownBlock = none ∨ vi.ownBlock ≠ v.ownBlock := by
  rcases hi.2 with ⟨e, _⟩ | ⟨g, c, cur, e, hb, hg, _⟩
  · left; rw [e]; rfl
  · right
    rw [e]
    intro e2
    rcases h.2 with ⟨e3, _⟩ | ⟨g', c', cur', e3, hb', hg', _⟩
    · rw [e3] at e2; simp [Value.ownBlock] at e2
    · rw [e3] at e2
      simp only [Value.ownBlock, Option.some.injEq] at e2
      subst e2
      rw [hg] at hg'
      simp only [Option.some.injEq, Obj.cells.injEq] at hg'
      exact hE hg'.2.1.symm

/-- a box of three cells, of a fly -/
structure Bf (w : World) (b : Nat) (t : Y) : Prop where
  c0 : w.cell? ⟨b, 0, none⟩ = some (.int .i64 t.1)
  c1 : w.cell? ⟨b, 1, none⟩ = some (.int .i64 t.2.1)
  c2 : w.cell? ⟨b, 2, none⟩ = some (.int .i64 t.2.2)
  lt : b < w.heap.size
theorem Bf.below {w w' : World} {b : Nat} {t : Y} (h : Bf w b t) (hb : Below w.heap.size w w') : Bf w' b t :=
  ⟨(hb.cell (p := ⟨b, 0, none⟩) h.lt).trans h.c0, (hb.cell (p := ⟨b, 1, none⟩) h.lt).trans h.c1, (hb.cell (p := ⟨b, 2, none⟩) h.lt).trans h.c2, Nat.lt_of_lt_of_le h.lt hb.size⟩
theorem Bf.new (w : World) (x y z : Int) (t : TypeId) : Bf (w.alloc (.cells #[.int .i64 x, .int .i64 y, .int .i64 z] t)) w.heap.size (x, y, z) :=
  ⟨cell_of_row _ _ 0 _ t (0, 0) (heap_alloc_new w _), cell_of_row _ _ 1 _ t (0, 0) (heap_alloc_new w _), cell_of_row _ _ 2 _ t (0, 0) (heap_alloc_new w _), by simp⟩
/-- a box of four cells, of a link -/
structure B4 (w : World) (b : Nat) (up : Bool) (ep sq : Int) (v : Value) : Prop where
  c0 : w.cell? ⟨b, 0, none⟩ = some (.bool up)
  c1 : w.cell? ⟨b, 1, none⟩ = some (.int .i64 ep)
  c2 : w.cell? ⟨b, 2, none⟩ = some (.int .i64 sq)
  c3 : w.cell? ⟨b, 3, none⟩ = some v
  lt : b < w.heap.size
section
variable {w w' : World} {b : Nat} {up : Bool} {ep sq : Int} {v : Value}
theorem B4.below (h : B4 w b up ep sq v) (hb : Below w.heap.size w w') : B4 w' b up ep sq v :=
  ⟨(hb.cell (p := ⟨b, 0, none⟩) h.lt).trans h.c0, (hb.cell (p := ⟨b, 1, none⟩) h.lt).trans h.c1, (hb.cell (p := ⟨b, 2, none⟩) h.lt).trans h.c2, (hb.cell (p := ⟨b, 3, none⟩) h.lt).trans h.c3, Nat.lt_of_lt_of_le h.lt hb.size⟩
theorem B4.low {B : Nat} (h : B4 w b up ep sq v) (hb : Below B w w') (hlt : b < B) : B4 w' b up ep sq v :=
  ⟨(hb.cell (p := ⟨b, 0, none⟩) hlt).trans h.c0, (hb.cell (p := ⟨b, 1, none⟩) hlt).trans h.c1, (hb.cell (p := ⟨b, 2, none⟩) hlt).trans h.c2, (hb.cell (p := ⟨b, 3, none⟩) hlt).trans h.c3, Nat.lt_of_lt_of_le h.lt hb.size⟩
theorem B4.grown {r : Option Nat} (h : B4 w b up ep sq v) (hg : w.grownBy w' r) (hne : r ≠ some b) : B4 w' b up ep sq v :=
  ⟨(hg.cell_far ⟨b, 0, none⟩ h.lt (Ne.symm hne)).trans h.c0, (hg.cell_far ⟨b, 1, none⟩ h.lt (Ne.symm hne)).trans h.c1, (hg.cell_far ⟨b, 2, none⟩ h.lt (Ne.symm hne)).trans h.c2, (hg.cell_far ⟨b, 3, none⟩ h.lt (Ne.symm hne)).trans h.c3, Nat.lt_of_lt_of_le h.lt hg.size⟩
theorem B4.new (w : World) (up : Bool) (ep sq : Int) (v : Value) (t : TypeId) : B4 (w.alloc (.cells #[.bool up, .int .i64 ep, .int .i64 sq, v] t)) w.heap.size up ep sq v :=
  ⟨cell_of_row _ _ 0 _ t (0, 0) (heap_alloc_new w _), cell_of_row _ _ 1 _ t (0, 0) (heap_alloc_new w _), cell_of_row _ _ 2 _ t (0, 0) (heap_alloc_new w _), cell_of_row _ _ 3 _ t (0, 0) (heap_alloc_new w _), by simp⟩
theorem B4.set (h : B4 w b up ep sq v) (p : Addr) (z : Value) (hne : p.block ≠ b) : B4 (w.setCell p z) b up ep sq v :=
  ⟨by rw [World.cell?_setCell_far _ _ _ _ hne]; exact h.c0, by rw [World.cell?_setCell_far _ _ _ _ hne]; exact h.c1, by rw [World.cell?_setCell_far _ _ _ _ hne]; exact h.c2, by rw [World.cell?_setCell_far _ _ _ _ hne]; exact h.c3, by simpa using h.lt⟩
theorem B4.set3 (h : B4 w b up ep sq v) (z : Value) : B4 (w.setCell ⟨b, 3, none⟩ z) b up ep sq z :=
  ⟨by rw [World.cell?_setCell_other _ _ _ _ (by simp)]; exact h.c0, by rw [World.cell?_setCell_other _ _ _ _ (by simp)]; exact h.c1, by rw [World.cell?_setCell_other _ _ _ _ (by simp)]; exact h.c2, World.cell?_setCell_same' _ _ _ (by rw [h.c3]; rfl), by simpa using h.lt⟩
theorem B4.cells (h : B4 w b up ep sq v) : w.cell? ⟨b, 0, none⟩ = some (.bool up) ∧ w.cell? ⟨b, 1, none⟩ = some (.int .i64 ep) ∧ w.cell? ⟨b, 2, none⟩ = some (.int .i64 sq) ∧ w.cell? ⟨b, 3, none⟩ = some v ∧ b < w.heap.size := ⟨h.c0, h.c1, h.c2, h.c3, h.lt⟩
end
/-- a box none of whose cells is frozen -/
def Fr (w : World) (b : Nat) : Prop := ∀ k, w.frozen? ⟨b, k, none⟩ = false
theorem Fr.new (w : World) (cs : Array Value) (t : TypeId) : Fr (w.alloc (.cells cs t)) w.heap.size := fun k => frozen_of_row _ _ k _ t (heap_alloc_new w _)
theorem Fr.low {B : Nat} {w w' : World} {b : Nat} (h : Fr w b) (hb : Below B w w') (hk : b < B) : Fr w' b := fun k => (hb.frozen (p := ⟨b, k, none⟩) hk).trans (h k)
theorem Fr.set {w : World} {b : Nat} (h : Fr w b) (p : Addr) (v : Value) : Fr (w.setCell p v) b := fun k => by rw [World.frozen?_setCell]; exact h k
theorem Fr.grown {w w1 : World} {k : Nat} {r : Option Nat} (h : Fr w k) (hlt : k < w.heap.size) (hg : w.grownBy w1 r) (hne : r ≠ some k) : Fr w1 k :=
  fun j => (hg.frozen_far ⟨k, j, none⟩ hlt (Ne.symm hne)).trans (h j)

/-- the marks from k on -/
def mrkY (k : Int) (n : Nat) : List Y := (List.range n).map fun (j : Nat) => (k + 3 * j, k + 3 * j + 1, k + 3 * j + 2)
def mrkI (k : Int) (n : Nat) : List Int := (List.range n).map fun (j : Nat) => k + j
theorem mrkY_len (k : Int) (n : Nat) : (mrkY k n).length = n := by simp [mrkY]
theorem mrkI_len (k : Int) (n : Nat) : (mrkI k n).length = n := by simp [mrkI]
theorem mrkY_get (k : Int) (n j : Nat) (h : j < (mrkY k n).length) : (mrkY k n)[j] = (k + 3 * j, k + 3 * j + 1, k + 3 * j + 2) := by simp [mrkY]
theorem mrkI_get (k : Int) (n j : Nat) (h : j < (mrkI k n).length) : (mrkI k n)[j] = k + j := by simp [mrkI]
theorem mrkY_step (k : Int) (l : List Y) (j : Nat) (h : j < l.length) :
    (mrkY k j ++ l.drop j).set j (k + 3 * j, k + 3 * j + 1, k + 3 * j + 2) = mrkY k (j + 1) ++ l.drop (j + 1) := by
  have e : mrkY k (j + 1) = mrkY k j ++ [(k + 3 * (j : Int), k + 3 * (j : Int) + 1, k + 3 * (j : Int) + 2)] := by simp [mrkY, List.range_succ]
  rw [e, List.set_append_right _ _ (by simp [mrkY]), List.append_assoc]
  congr 1
  rw [show j - (mrkY k j).length = 0 by simp [mrkY], List.drop_eq_getElem_cons h]
  rfl
theorem mrkI_step (k : Int) (l : List Int) (j : Nat) (h : j < l.length) :
    (mrkI k j ++ l.drop j).set j (k + j) = mrkI k (j + 1) ++ l.drop (j + 1) := by
  have e : mrkI k (j + 1) = mrkI k j ++ [k + (j : Int)] := by simp [mrkI, List.range_succ]
  rw [e, List.set_append_right _ _ (by simp [mrkI]), List.append_assoc]
  congr 1
  rw [show j - (mrkI k j).length = 0 by simp [mrkI], List.drop_eq_getElem_cons h]
  rfl
theorem mrkY_mid_len (k : Int) (l : List Y) (j : Nat) (h : j ≤ l.length) : (mrkY k j ++ l.drop j).length = l.length := by simp [mrkY_len]; omega
theorem mrkI_mid_len (k : Int) (l : List Int) (j : Nat) (h : j ≤ l.length) : (mrkI k j ++ l.drop j).length = l.length := by simp [mrkI_len]; omega

theorem infoFly : (Try.prog.info? 96).map (fun i => (i.zero, i.size, i.bytes)) = some (some (.agg #[.int .i64 0, .int .i64 0, .int .i64 0]), 3, 24) := by kernel_rfl
theorem infoInt : (Try.prog.info? 3).map (fun i => (i.zero, i.size, i.bytes)) = some (some (.int .i64 0), 1, 8) := by kernel_rfl

theorem wp_append_run {P : Program} {w : World} {o : Oper} {a : Act} {K : Act → World → Prop} {Q : Exit → Act → World → Prop} (s x : Operand) (t : TypeId)
    (ho : o.op = .call { callee := .builtin .append, args := #[s, x], argTypes := #[t, t] }) (v sx : Value) (hs : a.eval s = v) (hx : a.eval x = sx) {R : Value → World → Prop}
    (hr : ∃ v' w', (Builtin.append_ #[t, t] o.type #[v, sx]).run P w = .ok v' w' ∧ R v' w') (h : ∀ v' w', R v' w' → K (a.put o.dst v') w') : o.wp P a w K Q := by
  obtain ⟨v', w', hr, h2⟩ := hr
  unfold Oper.wp execOp
  simp only [ho, resolve, invoke, builtin, Sem.run_bind, Sem.run_pure, Result.andThen_ok, List.map_toArray, List.map_cons, List.map_nil, hs, hx, hr]
  exact h v' w' h2
theorem step_append_run {P : Program} {w : World} {ops : Array Oper} {o : Oper} {a : Act} {K : Act → World → Prop} {Q : Exit → Act → World → Prop} {E : Prop} (hgd : o.guard = none) (s x : Operand) (t : TypeId)
    (ho : o.op = .call { callee := .builtin .append, args := #[s, x], argTypes := #[t, t] }) (v sx : Value) (hs : a.eval s = v) (hx : a.eval x = sx) {R : Value → World → Prop}
    (hr : ∃ v' w', (Builtin.append_ #[t, t] o.type #[v, sx]).run P w = .ok v' w' ∧ R v' w') (h : ∀ v' w', R v' w' → K (a.put o.dst v') w') :
    if Region.wanted o (yielded ops a.tmps) = true then Oper.wp P o a w K Q else E := by
  have hw : Region.wanted o (yielded ops a.tmps) = true := by simp [Region.wanted, hgd]
  rw [if_pos hw]
  exact wp_append_run s x t ho v sx hs hx hr h
theorem wpList_append_run {P : Program} {w : World} {ops : Array Oper} {rest : List Oper} {o : Oper} {a : Act} {Q : Exit → Act → World → Prop} (hgd : o.guard = none) (s x : Operand) (t : TypeId)
    (ho : o.op = .call { callee := .builtin .append, args := #[s, x], argTypes := #[t, t] }) (v sx : Value) (hs : a.eval s = v) (hx : a.eval x = sx) {R : Value → World → Prop}
    (hr : ∃ v' w', (Builtin.append_ #[t, t] o.type #[v, sx]).run P w = .ok v' w' ∧ R v' w') (h : ∀ v' w', R v' w' → wpList P ops Q rest (a.put o.dst v') w') : wpList P ops Q (o :: rest) a w :=
  wpList_plain hgd fun _ hK => wp_append_run s x t ho v sx hs hx hr (fun v' w' hR => hK _ _ (h v' w' hR))
/-- what an append of flies leaves -/
def AppY (B : Nat) (w : World) (v : Value) (xs : List Y) (v' : Value) (w' : World) : Prop :=
  YOwn B w' 96 v' xs ∧ w.grownBy w' v.ownBlock ∧ (v'.ownBlock = v.ownBlock ∨ v'.ownBlock = some w.heap.size)
theorem app_yis {T : TypeId} (hT : Try.prog.underlying T = some (.slice 96)) {w : World} {B : Nat} {v : Value} {xs l : List Y} {a : Option Addr} {len cap : Nat} (hown : YOwn B w 96 v xs) (hs : YIs w.heap.size w a len l) (hcap : a = none → cap = 0) (hx : xs.length + len ≤ 2000000) (hB : B ≤ w.heap.size) :
    ∃ v' w', (Builtin.append_ #[T, T] T #[v, .slice a len cap]).run Try.prog w = .ok v' w' ∧ AppY B w v (xs ++ l) v' w' := by
  obtain ⟨i0, hi, hz0, hz1, hz2⟩ := info_parts infoFly
  cases a with
  | none =>
    obtain ⟨rfl, rfl⟩ := hs.none_nil
    rw [hcap rfl, List.append_nil]
    exact ⟨v, w, run_append_owned_none (P := Try.prog) (w := w) B T T 96 i0 3 hT hi v xs.length (Lnk.flat xs) hown, hown, World.grownBy.refl _ _, .inl rfl⟩
  | some ad =>
    have hlen := hs.hlen
    obtain ⟨v', w', hr, h2, h3, _, h5⟩ := run_append_own_at (P := Try.prog) w B T T 96 i0 _ 3 24 hT hi hz0 hz1 hz2 rfl (by omega) v xs.length (Lnk.flat xs) hown ad len cap (Lnk.flat l) (by rw [flat_len, hlen]) hs.flat (flat_one l) (by unfold maxLen; omega) (by omega) hB
    exact ⟨v', w', hr, by unfold YOwn; rw [List.length_append, flat_append, hlen]; exact h2, h3, h5⟩
/-- one fly, in a block of its own -/
theorem yis_one (w : World) (x y z : Int) (t : TypeId) : YIs (w.alloc (.cells #[.int .i64 x, .int .i64 y, .int .i64 z] t)).heap.size (w.alloc (.cells #[.int .i64 x, .int .i64 y, .int .i64 z] t)) (some ⟨w.heap.size, 0, none⟩) 1 [(x, y, z)] := by
  have h := Bf.new w x y z t
  refine ⟨rfl, by unfold maxLen; omega, fun k hk => ?_⟩
  have : k = 0 := by simp at hk; exact hk
  subst this
  exact ⟨_, _, rfl, h.lt, h.c0, h.c1, h.c2⟩
theorem AppY.below {B0 B : Nat} {w0 w w' : World} {v v' : Value} {xs : List Y} (h : AppY B w v xs v' w') (hb : Below B0 w0 w) (hB : B0 ≤ w0.heap.size) (hv : ∀ k, v.ownBlock = some k → B0 ≤ k) : Below B0 w0 w' := hb.grown h.2.1 (Nat.le_trans hB hb.size) hv
/-- an append of one fly onto a slice without room: a new row -/
theorem app_full {T : TypeId} (hT : Try.prog.underlying T = some (.slice 96)) {w : World} {l m : List Y} {a b : Option Addr} {len c : Nat} (h : YIs w.heap.size w a len l) (hs : YIs w.heap.size w b 1 m) (hx : len ≤ 2000000) :
    ∃ v' w', (Builtin.append_ #[T, T] T #[.slice a len len, .slice b 1 c]).run Try.prog w = .ok v' w' ∧ YOwn w.heap.size w' 96 v' (l ++ m) ∧ Below w.heap.size w w' := by
  obtain ⟨i0, hi, hz0, hz1, hz2⟩ := info_parts infoFly
  cases b with
  | none => have := hs.none_nil.2; omega
  | some bd =>
    have hml := hs.hlen
    have hl := h.hlen
    cases a with
    | none =>
      obtain ⟨rfl, rfl⟩ := h.none_nil
      obtain ⟨v', w', hr, h2, h3, _⟩ := run_append_own (P := Try.prog) w w.heap.size T T 96 i0 _ 3 24 hT hi hz0 hz1 hz2 rfl (by omega) (.slice none 0 0) 0 [] (World.ownsRow_nil w _ 96 3) bd 1 c (Lnk.flat m) (by rw [flat_len, hml]) hs.flat (flat_one m) (by unfold maxLen; omega) (by omega) (Nat.le_refl _)
      refine ⟨v', w', hr, by unfold YOwn; rw [List.nil_append, hml]; simpa using h2, (Below.refl _ _).grown h3 (Nat.le_refl _) (fun k e => by cases e)⟩
    | some ad =>
      obtain ⟨v', w', hr, h2, h3⟩ := run_append_arg_grows (P := Try.prog) w T T 96 i0 _ 3 24 hT hi hz0 hz1 hz2 rfl (by omega) ad len len (Lnk.flat l) (by rw [flat_len, hl]) h.flat bd 1 c (Lnk.flat m) (by rw [flat_len, hml]) hs.flat (by omega) (by unfold maxLen; omega) (by omega)
      exact ⟨v', w', hr, by unfold YOwn; rw [List.length_append, flat_append, hl, hml]; exact h2, (Below.refl _ _).grown h3 (Nat.le_refl _) (fun k e => by cases e)⟩
end Go.Proofs.Ytecfomaapomncaa.Lnk
