/-
  Slices of timers in memory: read, owned, kept.
-/
import Derived.Test.YtkoliacbajpijaaDoorProg
import Derived.WalkKit
import Derived.WalkSpells
import Derived.WalkLawsBesides
import Derived.Lib.Hide
import Derived.Deep.QuietTactic
import Derived.BigQuiet
import Derived.Below
import Derived.OwnWalk
import Derived.Maps.AppendAt
import Derived.Test.YtkoliacbajpijaaDoorWhlB
namespace Go.Proofs.YtkoliacbajpijaaDoor.Whl
open Go.RowKit
set_option linter.unusedVariables false

/-- A slice of timers, as read: what lies in it, and that it lies below block B. -/
structure TIs (B : Nat) (w : World) (a : Option Addr) (len : Nat) (l : List T) : Prop where
  hlen : l.length = len
  le : len ≤ maxLen
  cell : ∀ k (h : k < l.length), ∃ b off, a = some ⟨b, off, none⟩ ∧ b < B ∧ w.cell? ⟨b, off + k * 2, none⟩ = some (.int .i64 l[k].1) ∧ w.cell? ⟨b, off + k * 2 + 1, none⟩ = some (.int .i64 l[k].2)
theorem TIs.below {B : Nat} {w w' : World} {a : Option Addr} {len : Nat} {l : List T} (h : TIs B w a len l) (hb : Below B w w') : TIs B w' a len l :=
  ⟨h.hlen, h.le, fun k hk => by
    obtain ⟨b, off, e, hlt, h0, h1⟩ := h.cell k hk
    exact ⟨b, off, e, hlt, (hb.cell (p := ⟨b, off + k * 2, none⟩) hlt).trans h0, (hb.cell (p := ⟨b, off + k * 2 + 1, none⟩) hlt).trans h1⟩⟩
theorem TIs.mono {B B' : Nat} {w : World} {a : Option Addr} {len : Nat} {l : List T} (h : TIs B w a len l) (hB : B ≤ B') : TIs B' w a len l :=
  ⟨h.hlen, h.le, fun k hk => by
    obtain ⟨b, off, e, hlt, h0, h1⟩ := h.cell k hk
    exact ⟨b, off, e, Nat.lt_of_lt_of_le hlt hB, h0, h1⟩⟩

/-- the cells of timers -/
def flat (l : List T) : List Value := l.flatMap fun t => [.int .i64 t.1, .int .i64 t.2]
theorem flat_nil : flat [] = [] := rfl
theorem flat_cons (t : T) (l : List T) : flat (t :: l) = .int .i64 t.1 :: .int .i64 t.2 :: flat l := rfl
theorem flat_append (l m : List T) : flat (l ++ m) = flat l ++ flat m := by simp [flat]
theorem flat_snoc (l : List T) (t : T) : flat (l ++ [t]) = flat l ++ [.int .i64 t.1, .int .i64 t.2] := by rw [flat_append]; rfl
theorem flat_len : ∀ l : List T, (flat l).length = l.length * 2
  | [] => rfl
  | t :: l => by rw [flat_cons, List.length_cons, List.length_cons, flat_len l, List.length_cons]; omega
theorem flat_get : ∀ (l : List T) (k : Nat) (h : k < l.length), (flat l)[k * 2]? = some (.int .i64 l[k].1) ∧ (flat l)[k * 2 + 1]? = some (.int .i64 l[k].2)
  | [], k, h => by simp at h
  | t :: l, 0, _ => ⟨rfl, rfl⟩
  | t :: l, k + 1, h => by
    have e : (k + 1) * 2 = k * 2 + 1 + 1 := by omega
    rw [e, flat_cons]
    simp only [List.getElem?_cons_succ, List.getElem_cons_succ]
    exact flat_get l k (by simpa using h)
theorem flat_set : ∀ (l : List T) (k : Nat) (x y : Int), k < l.length → ((flat l).set (k * 2) (.int .i64 x)).set (k * 2 + 1) (.int .i64 y) = flat (l.set k (x, y))
  | [], k, _, _, h => by simp at h
  | t :: l, 0, x, y, _ => rfl
  | t :: l, k + 1, x, y, h => by
    have e : (k + 1) * 2 = k * 2 + 1 + 1 := by omega
    rw [e, flat_cons]
    simp only [List.set_cons_succ]
    rw [flat_set l k x y (by simpa using h), flat_cons]
theorem flat_one (l : List T) : ∀ u ∈ flat l, u.oneCell' = true := by
  intro u hu
  obtain ⟨t, _, ht⟩ := List.mem_flatMap.1 hu
  simp at ht
  rcases ht with rfl | rfl <;> rfl
theorem flat_made (n : Nat) : (madeCells (Value.agg #[.int .i64 0, .int .i64 0]).cells (n * 2)).toList = flat (List.replicate n (0, 0)) := by
  apply List.ext_getElem?
  intro j
  by_cases hj : j < n * 2
  · have h1 : (flat (List.replicate n (0, 0)))[j]? = some (.int .i64 0) := by
      have hk : j / 2 < (List.replicate n ((0 : Int), (0 : Int))).length := by simp; omega
      have := flat_get _ (j / 2) hk
      simp only [List.getElem_replicate] at this
      by_cases h2 : j % 2 = 0
      · rw [show j / 2 * 2 = j by omega] at this; exact this.1
      · rw [show j / 2 * 2 + 1 = j by omega] at this; exact this.2
    rw [h1]
    have h3 : j % 2 = 0 ∨ j % 2 = 1 := by omega
    rcases h3 with h3 | h3 <;> simp [madeCells, Value.cells, hj, h3]
  · rw [List.getElem?_eq_none (by simp [madeCells]; omega), List.getElem?_eq_none (by rw [flat_len]; simp; omega)]
theorem flat_inj : ∀ {l m : List T}, flat l = flat m → l = m
  | [], [], _ => rfl
  | [], t :: m, h => by simp [flat] at h
  | t :: l, [], h => by simp [flat] at h
  | t :: l, u :: m, h => by
    rw [flat_cons, flat_cons] at h
    injection h with h1 h2
    injection h2 with h2 h3
    injection h1 with _ h1
    injection h2 with _ h2
    rw [flat_inj h3, Prod.ext h1 h2]

/-- A slice of timers of the call's own. -/
def TOwn (B : Nat) (w : World) (E : TypeId) (v : Value) (l : List T) : Prop := w.ownsRow B E 2 v l.length (flat l)
theorem TOwn.is {B : Nat} {w : World} {E : TypeId} {a : Option Addr} {len cap : Nat} {l : List T} (h : TOwn B w E (.slice a len cap) l) : len = l.length ∧ TIs w.heap.size w a l.length l := by
  unfold TOwn at h
  rcases h.2 with ⟨e, h0⟩ | ⟨g, c, cur, e, hb, hg, hn, hm, hs, ht⟩
  · simp only [Value.slice.injEq] at e
    obtain ⟨rfl, rfl, rfl⟩ := e
    exact ⟨h0.symm, rfl, by unfold maxLen; omega, fun k hk => by omega⟩
  · simp only [Value.slice.injEq] at e
    obtain ⟨rfl, rfl, rfl⟩ := e
    refine ⟨rfl, rfl, by omega, fun k hk => ⟨g, 0, rfl, (h.lt g rfl).2, ?_, ?_⟩⟩
    · rw [Nat.zero_add, h.cellAt _ (by omega)]; exact (flat_get l k hk).1
    · rw [Nat.zero_add, h.cellAt _ (by omega)]; exact (flat_get l k hk).2
theorem TOwn.shape {B : Nat} {w : World} {E : TypeId} {v : Value} {l : List T} (h : TOwn B w E v l) : ∃ a cap, v = .slice a l.length cap := by
  rcases h.2 with ⟨e, h0⟩ | ⟨g, c, cur, e, _⟩
  · exact ⟨none, 0, by rw [e, h0]⟩
  · exact ⟨_, _, e⟩
theorem TOwn.set {B : Nat} {w : World} {E : TypeId} {g cap n : Nat} {l : List T} (h : TOwn B w E (.slice (some ⟨g, 0, none⟩) n cap) l) (k : Nat) (hk : k < l.length) (x y : Int) :
    TOwn B ((w.setCell ⟨g, k * 2, none⟩ (.int .i64 x)).setCell ⟨g, k * 2 + 1, none⟩ (.int .i64 y)) E (.slice (some ⟨g, 0, none⟩) n cap) (l.set k (x, y)) ∧
      w.grownBy ((w.setCell ⟨g, k * 2, none⟩ (.int .i64 x)).setCell ⟨g, k * 2 + 1, none⟩ (.int .i64 y)) (some g) := by
  have hn : n = l.length := h.is.1
  subst hn
  unfold TOwn at *
  have h1 := h.stored (k * 2) (.int .i64 x)
  have h2 := h1.1.stored (k * 2 + 1) (.int .i64 y)
  rw [flat_set l k x y hk] at h2
  rw [List.length_set]
  exact ⟨h2.1, ⟨h2.2.os.trans h1.2.os, h2.2.tape.trans h1.2.tape, h2.2.output.trans h1.2.output, Nat.le_trans h1.2.size h2.2.size, fun j hj hne => (h2.2.block j (Nat.lt_of_lt_of_le hj h1.2.size) hne).trans (h1.2.block j hj hne)⟩⟩

theorem grown_of_below {w w' : World} (h : Below w.heap.size w w') (r : Option Nat) : w.grownBy w' r := ⟨h.os, h.tape, h.output, h.size, fun k hk _ => h.block k hk⟩
theorem TOwn.below {B : Nat} {w w' : World} {E : TypeId} {v : Value} {l : List T} (h : TOwn B w E v l) (hb : Below w.heap.size w w') : TOwn B w' E v l :=
  World.ownsRow.kept h (grown_of_below hb none) (by
    cases hv : v.ownBlock with
    | none => exact .inl rfl
    | some k => exact .inr (by simp))
theorem TOwn.cellAt {B : Nat} {w : World} {E : TypeId} {g n cap : Nat} {l : List T} (h : TOwn B w E (.slice (some ⟨g, 0, none⟩) n cap) l) (k : Nat) (hk : k < l.length) :
    w.cell? ⟨g, k * 2, none⟩ = some (.int .i64 l[k].1) ∧ w.cell? ⟨g, k * 2 + 1, none⟩ = some (.int .i64 l[k].2) ∧ w.frozen? ⟨g, k * 2, none⟩ = false ∧ w.frozen? ⟨g, k * 2 + 1, none⟩ = false := by
  have hn := h.is.1
  subst hn
  unfold TOwn at h
  exact ⟨by rw [h.cellAt _ (by omega)]; exact (flat_get l k hk).1, by rw [h.cellAt _ (by omega)]; exact (flat_get l k hk).2, h.frozenAt _, h.frozenAt _⟩

theorem bcell {W w1 : World} (hb : Below W.heap.size W w1) : (∀ b o, b < W.heap.size → w1.cell? ⟨b, o, none⟩ = W.cell? ⟨b, o, none⟩) ∧ (∀ b o, b < W.heap.size → w1.frozen? ⟨b, o, none⟩ = W.frozen? ⟨b, o, none⟩) :=
  ⟨fun b o h => hb.cell (p := ⟨b, o, none⟩) h, fun b o h => hb.frozen (p := ⟨b, o, none⟩) h⟩
theorem TOwn.base {B B' : Nat} {w : World} {E : TypeId} {v : Value} {l : List T} (h : TOwn B w E v l) (hB : B' ≤ B) : TOwn B' w E v l := by
  refine ⟨h.1, ?_⟩
  rcases h.2 with e | ⟨g, c, cur, e, hb, r⟩
  · exact .inl e
  · exact .inr ⟨g, c, cur, e, by omega, r⟩
/-- a store into a block below the row's base -/
theorem TOwn.setLow {B : Nat} {w : World} {E : TypeId} {v : Value} {l : List T} (h : TOwn B w E v l) {p : Addr} (hp : p.block < B) (u : Value) : TOwn B (w.setCell p u) E v l := by
  refine World.ownsRow.kept h (row := some p.block) ⟨rfl, rfl, rfl, by simp, fun k _ hk => heap_setCell_other w p k u (fun e => hk (by simp [e]))⟩ ?_
  cases hv : v.ownBlock with
  | none => exact .inl rfl
  | some k =>
    have := (World.ownsRow.lt h k hv).1
    refine .inr (fun e => ?_)
    injection e with e
    omega
/-- a box of two cells -/
structure Bx (w : World) (b : Nat) (u v : Value) : Prop where
  c0 : w.cell? ⟨b, 0, none⟩ = some u
  c1 : w.cell? ⟨b, 1, none⟩ = some v
  lt : b < w.heap.size
theorem Bx.below {w w' : World} {b : Nat} {u v : Value} (h : Bx w b u v) (hb : Below w.heap.size w w') : Bx w' b u v :=
  ⟨(hb.cell (p := ⟨b, 0, none⟩) h.lt).trans h.c0, (hb.cell (p := ⟨b, 1, none⟩) h.lt).trans h.c1, Nat.lt_of_lt_of_le h.lt hb.size⟩
theorem Bx.new (w : World) (u v : Value) (t : TypeId) : Bx (w.alloc (.cells #[u, v] t)) w.heap.size u v :=
  ⟨cell_of_row _ _ 0 _ t (0, 0) (heap_alloc_new w _), cell_of_row _ _ 1 _ t (0, 0) (heap_alloc_new w _), by simp⟩
theorem bOne (w : World) (o : Obj) : Below w.heap.size w (w.alloc o) := (Below.refl _ _).alloc (Nat.le_refl _) _
theorem bAfter {B : Nat} {a w w' : World} (h : Below B a w) (h2 : Below w.heap.size w w') (hB : B ≤ w.heap.size) : Below B a w' := h.trans (h2.mono hB)
theorem TIs.here {w w' : World} {a : Option Addr} {len : Nat} {l : List T} (h : TIs w.heap.size w a len l) (hb : Below w.heap.size w w') : TIs w'.heap.size w' a len l := (h.below hb).mono hb.size
/-- the first time of a wheel -/
def nextL (l : List T) : Int := match l with | [] => -1 | t :: _ => t.1
theorem nextL_some {l : List T} (h : 0 < l.length) : nextL l = l[0].1 := by cases l with
  | nil => simp at h
  | cons t r => rfl
set_option maxHeartbeats 400000 in
theorem nextTimer_some (w : World) (B : Nat) (a : Option Addr) (len cap : Nat) (now : Int) (l : List T) (h : TIs B w a len l) (hB : B ≤ w.heap.size) (h0 : 0 < l.length) :
    Calls Tryd.prog 19 #[.agg #[.int .i64 now, .slice a len cap]] w fun e w' => e = .returned (.int .i64 l[0].1) ∧ Below w.heap.size w w' := by
  obtain ⟨b, off, rfl, hlt, c0, c1⟩ := h.cell 0 h0
  have hlen := h.hlen
  have hle := h.le
  unfold maxLen at hle
  simp only [Nat.zero_mul, Nat.add_zero] at c0 c1
  obtain ⟨x, hx⟩ : ∃ x, x = l[0].1 := ⟨_, rfl⟩
  rw [← hx] at c0 ⊢
  have hbs : b < w.heap.size := by omega
  have hpos : 0 < len := by omega
  have hz : ((len : Int) == 0) = false := by simp; omega
  clear h hlen hlt hB hx c1
  go_enter Tryd.func19, Tryd.ntmps19
  go_wp2
  go_ret
  exact ⟨rfl, (Below.refl _ _).alloc (Nat.le_refl _) _⟩
theorem nextTimer_none (w : World) (a : Option Addr) (cap : Nat) (now : Int) :
    Calls Tryd.prog 19 #[.agg #[.int .i64 now, .slice a 0 cap]] w fun e w' => e = .returned (.int .i64 (-1)) ∧ Below w.heap.size w w' := by
  go_enter Tryd.func19, Tryd.ntmps19
  go_wp2
  go_ret
  exact ⟨rfl, (Below.refl _ _).alloc (Nat.le_refl _) _⟩
theorem nextTimer_any (w : World) (B : Nat) (a : Option Addr) (len cap : Nat) (now : Int) (l : List T) (h : TIs B w a len l) (hB : B ≤ w.heap.size) :
    Calls Tryd.prog 19 #[.agg #[.int .i64 now, .slice a len cap]] w fun e w' => e = .returned (.int .i64 (nextL l)) ∧ Below w.heap.size w w' := by
  by_cases h0 : 0 < l.length
  · rw [nextL_some h0]
    exact nextTimer_some w B a len cap now l h hB h0
  · have hl : l = [] := List.eq_nil_of_length_eq_zero (by omega)
    subst hl
    have := h.hlen
    simp at this
    subst this
    exact nextTimer_none w a cap now
set_option maxHeartbeats 400000 in
theorem specNextTimer_some (w : World) (B : Nat) (a : Option Addr) (len cap : Nat) (now : Int) (l : List T) (h : TIs B w a len l) (hB : B ≤ w.heap.size) (h0 : 0 < l.length) :
    Calls Tryd.prog 23 #[.agg #[.int .i64 now, .slice a len cap]] w fun e w' => e = .returned (.int .i64 l[0].1) ∧ Below w.heap.size w w' := by
  obtain ⟨b, off, rfl, hlt, c0, c1⟩ := h.cell 0 h0
  have hlen := h.hlen
  have hle := h.le
  unfold maxLen at hle
  simp only [Nat.zero_mul, Nat.add_zero] at c0 c1
  obtain ⟨x, hx⟩ : ∃ x, x = l[0].1 := ⟨_, rfl⟩
  rw [← hx] at c0 ⊢
  have hbs : b < w.heap.size := by omega
  have hpos : 0 < len := by omega
  have hz : ((len : Int) == 0) = false := by simp; omega
  clear h hlen hlt hB hx c1
  go_enter Tryd.func23, Tryd.ntmps23
  go_wp2
  go_ret
  exact ⟨rfl, (Below.refl _ _).alloc (Nat.le_refl _) _⟩
theorem specNextTimer_none (w : World) (a : Option Addr) (cap : Nat) (now : Int) :
    Calls Tryd.prog 23 #[.agg #[.int .i64 now, .slice a 0 cap]] w fun e w' => e = .returned (.int .i64 (-1)) ∧ Below w.heap.size w w' := by
  go_enter Tryd.func23, Tryd.ntmps23
  go_wp2
  go_ret
  exact ⟨rfl, (Below.refl _ _).alloc (Nat.le_refl _) _⟩
theorem specNextTimer_any (w : World) (B : Nat) (a : Option Addr) (len cap : Nat) (now : Int) (l : List T) (h : TIs B w a len l) (hB : B ≤ w.heap.size) :
    Calls Tryd.prog 23 #[.agg #[.int .i64 now, .slice a len cap]] w fun e w' => e = .returned (.int .i64 (nextL l)) ∧ Below w.heap.size w w' := by
  by_cases h0 : 0 < l.length
  · rw [nextL_some h0]
    exact specNextTimer_some w B a len cap now l h hB h0
  · have hl : l = [] := List.eq_nil_of_length_eq_zero (by omega)
    subst hl
    have := h.hlen
    simp at this
    subst this
    exact specNextTimer_none w a cap now
end Go.Proofs.YtkoliacbajpijaaDoor.Whl
