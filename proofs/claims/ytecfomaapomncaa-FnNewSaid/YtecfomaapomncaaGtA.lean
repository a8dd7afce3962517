/-
  Rows of structs in memory, whatever their shape: read, owned, stored into; rows of messages and of links.
-/
import Derived.Test.YtecfomaapomncaaLkX
namespace Go.Proofs.Ytecfomaapomncaa.Gat
open Go.RowKit
set_option linter.unusedVariables false

/-- a struct's cells -/
structure Shp (α : Type) where
  n : Nat
  f : α → List Value
  hn : ∀ x, (f x).length = n
section
variable {α : Type} (S : Shp α)
def flatF (l : List α) : List Value := l.flatMap S.f
theorem flatF_cons (x : α) (l : List α) : flatF S (x :: l) = S.f x ++ flatF S l := rfl
theorem flatF_app (l m : List α) : flatF S (l ++ m) = flatF S l ++ flatF S m := by simp [flatF]
theorem flatF_len : ∀ l : List α, (flatF S l).length = l.length * S.n
  | [] => by simp [flatF]
  | x :: l => by rw [flatF_cons, List.length_append, S.hn, flatF_len l, List.length_cons, Nat.add_mul]; omega
theorem flatF_get : ∀ (l : List α) (k : Nat) (h : k < l.length) (i : Nat), i < S.n → (flatF S l)[k * S.n + i]? = (S.f l[k])[i]?
  | [], k, h, _, _ => by simp at h
  | x :: l, 0, _, i, hi => by
    rw [flatF_cons, Nat.zero_mul, Nat.zero_add, List.getElem?_append_left (by rw [S.hn]; exact hi)]
    rfl
  | x :: l, k + 1, h, i, hi => by
    rw [flatF_cons, List.getElem?_append_right (by rw [S.hn, Nat.add_mul]; omega), S.hn]
    have e : (k + 1) * S.n + i - S.n = k * S.n + i := by rw [Nat.add_mul]; omega
    rw [e]
    exact flatF_get l k (by simpa using h) i hi
def setMany : List Value → Nat → List Value → List Value
  | xs, _, [] => xs
  | xs, o, v :: vs => setMany (xs.set o v) (o + 1) vs
theorem setMany_mid : ∀ (new old pre post : List Value), old.length = new.length → setMany (pre ++ old ++ post) pre.length new = pre ++ new ++ post
  | [], old, pre, post, h => by
    have : old = [] := List.length_eq_zero_iff.1 (by simpa using h)
    subst this
    rfl
  | v :: new, [], pre, post, h => by simp at h
  | v :: new, o :: old, pre, post, h => by
    have e : (pre ++ o :: old ++ post).set pre.length v = (pre ++ [v]) ++ old ++ post := by simp
    rw [setMany, e]
    have := setMany_mid new old (pre ++ [v]) post (by simpa using h)
    simpa using this
theorem flatF_set (l : List α) (k : Nat) (x : α) (h : k < l.length) : setMany (flatF S l) (k * S.n) (S.f x) = flatF S (l.set k x) := by
  have e : l = l.take k ++ l[k] :: l.drop (k + 1) := by simp
  have e2 : l.set k x = l.take k ++ x :: l.drop (k + 1) := by
    rw [List.set_eq_take_append_cons_drop, if_pos h]
  have h1 : flatF S l = flatF S (l.take k) ++ S.f l[k] ++ flatF S (l.drop (k + 1)) := by
    conv => lhs; rw [e]
    rw [flatF_app, flatF_cons, List.append_assoc]
  have h2 : (flatF S (l.take k)).length = k * S.n := by rw [flatF_len]; simp [Nat.min_eq_left (Nat.le_of_lt h)]
  rw [h1, e2, flatF_app, flatF_cons, ← List.append_assoc]
  have := setMany_mid (S.f x) (S.f l[k]) (flatF S (l.take k)) (flatF S (l.drop (k + 1))) (by rw [S.hn, S.hn])
  rwa [h2] at this
theorem flatF_made (z : Value) (x : α) (m : Nat) (hp : 0 < S.n) (hz : z.cells.toList = S.f x) : (madeCells z.cells (m * S.n)).toList = flatF S (List.replicate m x) := by
  have hsz : z.cells.size = S.n := by rw [← Array.length_toList, hz, S.hn]
  apply List.ext_getElem?
  intro j
  by_cases hj : j < m * S.n
  · have hk : j / S.n < (List.replicate m x).length := by rw [List.length_replicate]; exact Nat.div_lt_of_lt_mul (by rwa [Nat.mul_comm] at hj)
    have hr := Nat.mod_lt j hp
    have h1 := flatF_get S _ (j / S.n) hk (j % S.n) hr
    rw [Nat.div_add_mod'] at h1
    rw [h1]
    simp only [madeCells, Array.toList_map, Array.toList_range, List.getElem?_map, List.getElem?_range hj, Option.map_some, hsz]
    rw [List.getElem_replicate, ← hz, Array.getElem?_toList, Array.getElem?_eq_getElem (by rw [hsz]; exact hr), getElem!_pos z.cells (j % S.n) (by rw [hsz]; exact hr)]
  · rw [List.getElem?_eq_none (by simp [madeCells]; omega), List.getElem?_eq_none (by rw [flatF_len]; simp; omega)]

/-- a slice of structs, as read -/
structure RIs (B : Nat) (w : World) (a : Option Addr) (len : Nat) (l : List α) : Prop where
  hlen : l.length = len
  le : len ≤ maxLen
  cell : ∀ k (h : k < l.length), ∃ b off, a = some ⟨b, off, none⟩ ∧ b < B ∧ ∀ i u, (S.f l[k])[i]? = some u → w.cell? ⟨b, off + k * S.n + i, none⟩ = some u
variable {S}
theorem RIs.below {B : Nat} {w w' : World} {a : Option Addr} {len : Nat} {l : List α} (h : RIs S B w a len l) (hb : Below B w w') : RIs S B w' a len l :=
  ⟨h.hlen, h.le, fun k hk => by
    obtain ⟨b, off, e, hlt, h0⟩ := h.cell k hk
    exact ⟨b, off, e, hlt, fun i u hu => (hb.cell (p := ⟨b, off + k * S.n + i, none⟩) hlt).trans (h0 i u hu)⟩⟩
theorem RIs.mono {B B' : Nat} {w : World} {a : Option Addr} {len : Nat} {l : List α} (h : RIs S B w a len l) (hB : B ≤ B') : RIs S B' w a len l :=
  ⟨h.hlen, h.le, fun k hk => by
    obtain ⟨b, off, e, hlt, h0⟩ := h.cell k hk
    exact ⟨b, off, e, Nat.lt_of_lt_of_le hlt hB, h0⟩⟩
theorem RIs.here {w w' : World} {a : Option Addr} {len : Nat} {l : List α} (h : RIs S w.heap.size w a len l) (hb : Below w.heap.size w w') : RIs S w'.heap.size w' a len l := (h.below hb).mono hb.size
theorem RIs.nil (B : Nat) (w : World) (a : Option Addr) : RIs S B w a 0 [] := ⟨rfl, by unfold maxLen; omega, fun k hk => by simp at hk⟩

variable (S)
/-- a slice of structs of the call's own -/
def ROwn (B : Nat) (w : World) (E : TypeId) (v : Value) (l : List α) : Prop := w.ownsRow B E S.n v l.length (flatF S l)
variable {S}
theorem ROwn.is {B : Nat} {w : World} {E : TypeId} {a : Option Addr} {n cap : Nat} {l : List α} (h : ROwn S B w E (.slice a n cap) l) : n = l.length ∧ RIs S w.heap.size w a l.length l := by
  unfold ROwn at h
  rcases h.2 with ⟨e, h0⟩ | ⟨g, c, cur, e, hb, hg, hn, hm, hs, ht⟩
  · simp only [Value.slice.injEq] at e
    obtain ⟨rfl, rfl, rfl⟩ := e
    exact ⟨h0.symm, rfl, by unfold maxLen; omega, fun k hk => by omega⟩
  · simp only [Value.slice.injEq] at e
    obtain ⟨rfl, rfl, rfl⟩ := e
    refine ⟨rfl, rfl, by omega, fun k hk => ⟨g, 0, rfl, (h.lt g rfl).2, fun i u hu => ?_⟩⟩
    have hi : i < S.n := by
      have := (List.getElem?_eq_some_iff.1 hu).1
      rwa [S.hn] at this
    have hlt : k * S.n + i < l.length * S.n := by
      have : (k + 1) * S.n ≤ l.length * S.n := Nat.mul_le_mul_right _ hk
      rw [Nat.add_mul] at this
      omega
    rw [Nat.zero_add, h.cellAt _ hlt, flatF_get S l k hk i hi]
    exact hu
theorem ROwn.isN {B : Nat} {w : World} {E : TypeId} {a : Option Addr} {n cap : Nat} {l : List α} (h : ROwn S B w E (.slice a n cap) l) : RIs S w.heap.size w a n l := by
  have h1 := h.is
  rw [h1.1]
  exact h1.2
theorem ROwn.shape {B : Nat} {w : World} {E : TypeId} {v : Value} {l : List α} (h : ROwn S B w E v l) : ∃ a cap, v = .slice a l.length cap := by
  rcases h.2 with ⟨e, h0⟩ | ⟨g, c, cur, e, _⟩
  · exact ⟨none, 0, by rw [e, h0]⟩
  · exact ⟨_, _, e⟩
theorem ROwn.grown {B : Nat} {w w' : World} {E : TypeId} {v : Value} {l : List α} {r : Option Nat} (h : ROwn S B w E v l) (hg : w.grownBy w' r) (hne : v.ownBlock = none ∨ v.ownBlock ≠ r) : ROwn S B w' E v l := World.ownsRow.kept h hg hne
theorem ROwn.below {B : Nat} {w w' : World} {E : TypeId} {v : Value} {l : List α} (h : ROwn S B w E v l) (hb : Below w.heap.size w w') : ROwn S B w' E v l :=
  h.grown (Lnk.grown_of_below hb none) (by
    cases hv : v.ownBlock with
    | none => exact .inl rfl
    | some k => exact .inr (by simp))
theorem ROwn.base {B B' : Nat} {w : World} {E : TypeId} {v : Value} {l : List α} (h : ROwn S B w E v l) (hB : B' ≤ B) : ROwn S B' w E v l := by
  refine ⟨h.1, ?_⟩
  rcases h.2 with e | ⟨g, c, cur, e, hb, r⟩
  · exact .inl e
  · exact .inr ⟨g, c, cur, e, by omega, r⟩
theorem ROwn.setLow {B : Nat} {w : World} {E : TypeId} {v : Value} {l : List α} (h : ROwn S B w E v l) {p : Addr} (hp : p.block < B) (u : Value) : ROwn S B (w.setCell p u) E v l := by
  refine World.ownsRow.kept h (row := some p.block) ⟨rfl, rfl, rfl, by simp, fun k _ hk => heap_setCell_other w p k u (fun e => hk (by simp [e]))⟩ ?_
  cases hv : v.ownBlock with
  | none => exact .inl rfl
  | some k =>
    have := (World.ownsRow.lt h k hv).1
    exact .inr (fun e => by injection e with e; omega)
theorem ROwn.nil (B : Nat) (w : World) (E : TypeId) : ROwn S B w E (.slice none 0 0) [] := World.ownsRow_nil _ _ _ _
theorem ROwn.lit (w : World) (E : TypeId) : ROwn S w.heap.size (w.alloc (.cells #[] E)) E (.slice (some ⟨w.heap.size, 0, none⟩) 0 0) [] :=
  World.ownsRow_lit (base := w.heap.size) (e := E) (size := S.n) w #[] 0 (Nat.le_refl _) (by unfold maxLen; omega) (by simp)
theorem ROwn.lecap {B : Nat} {w : World} {E : TypeId} {a : Option Addr} {n cap : Nat} {l : List α} (h : ROwn S B w E (.slice a n cap) l) : n ≤ cap := by
  rcases h.2 with ⟨e, h0⟩ | ⟨g, c, cur, e, hb, hg, hn, hm, hs, ht⟩
  · simp only [Value.slice.injEq] at e
    omega
  · simp only [Value.slice.injEq] at e
    obtain ⟨rfl, rfl, rfl⟩ := e
    exact hn
theorem ROwn.nilcap {B : Nat} {w : World} {E : TypeId} {a : Option Addr} {n cap : Nat} {l : List α} (h : ROwn S B w E (.slice a n cap) l) : a = none → cap = 0 := by
  rintro rfl
  rcases h.2 with ⟨e, h0⟩ | ⟨g, c, cur, e, _⟩
  · simp only [Value.slice.injEq] at e
    exact e.2.2
  · simp at e
theorem ROwn.frozenAt {B : Nat} {w : World} {E : TypeId} {g n cap : Nat} {l : List α} (h : ROwn S B w E (.slice (some ⟨g, 0, none⟩) n cap) l) (j : Nat) : w.frozen? ⟨g, j, none⟩ = false := by
  have hn := h.is.1
  subst hn
  exact World.ownsRow.frozenAt h j
theorem ROwn.cellAt {B : Nat} {w : World} {E : TypeId} {g n cap : Nat} {l : List α} (h : ROwn S B w E (.slice (some ⟨g, 0, none⟩) n cap) l) (k : Nat) (hk : k < l.length) (i : Nat) (u : Value) (hu : (S.f l[k])[i]? = some u) : w.cell? ⟨g, k * S.n + i, none⟩ = some u := by
  have hn := h.is.1
  subst hn
  obtain ⟨b, off, e, hlt, hc⟩ := h.is.2.cell k hk
  simp only [Option.some.injEq, Addr.mk.injEq, and_true] at e
  obtain ⟨rfl, rfl⟩ := e
  have := hc i u hu
  rwa [Nat.zero_add] at this
def storeMany : World → Nat → Nat → List Value → World
  | w, _, _, [] => w
  | w, g, o, v :: vs => storeMany (w.setCell ⟨g, o, none⟩ v) g (o + 1) vs
theorem stored_many {B : Nat} {E : TypeId} {size g n cap : Nat} : ∀ (vs : List Value) (o : Nat) (w : World) (xs : List Value), w.ownsRow B E size (.slice (some ⟨g, 0, none⟩) n cap) n xs →
    (storeMany w g o vs).ownsRow B E size (.slice (some ⟨g, 0, none⟩) n cap) n (setMany xs o vs) ∧ w.grownBy (storeMany w g o vs) (some g)
  | [], o, w, xs, h => ⟨h, rfl, rfl, rfl, Nat.le_refl _, fun _ _ _ => rfl⟩
  | v :: vs, o, w, xs, h => by
    have h1 := h.stored o v
    have h2 := stored_many vs (o + 1) _ _ h1.1
    exact ⟨h2.1, h1.2.trans h2.2⟩
theorem ROwn.set {B : Nat} {w : World} {E : TypeId} {g cap n : Nat} {l : List α} (h : ROwn S B w E (.slice (some ⟨g, 0, none⟩) n cap) l) (k : Nat) (hk : k < l.length) (x : α) :
    ROwn S B (storeMany w g (k * S.n) (S.f x)) E (.slice (some ⟨g, 0, none⟩) n cap) (l.set k x) ∧ w.grownBy (storeMany w g (k * S.n) (S.f x)) (some g) := by
  have hn : n = l.length := h.is.1
  subst hn
  have h1 := stored_many (S.f x) (k * S.n) w _ h
  rw [flatF_set S l k x hk] at h1
  refine ⟨?_, h1.2⟩
  unfold ROwn
  rw [List.length_set]
  exact h1.1
theorem RIs.none_nil {B : Nat} {w : World} {len : Nat} {l : List α} (h : RIs S B w none len l) : l = [] ∧ len = 0 := by
  have hl0 : l = [] := by
    cases hc : l with
    | nil => rfl
    | cons t r =>
      obtain ⟨b, off, e, _⟩ := h.cell 0 (by rw [hc]; simp)
      cases e
  subst hl0
  exact ⟨rfl, by have := h.hlen; simpa using this.symm⟩
theorem RIs.flat {B : Nat} {w : World} {ad : Addr} {len : Nat} {l : List α} (h : RIs S B w (some ad) len l) (hp : 0 < S.n) : ∀ j u, (flatF S l)[j]? = some u → w.cell? (ad.add j) = some u := by
  intro j u hu
  have hj : j < l.length * S.n := by
    have := (List.getElem?_eq_some_iff.1 hu).1
    rwa [flatF_len] at this
  have hk : j / S.n < l.length := Nat.div_lt_of_lt_mul (by rwa [Nat.mul_comm] at hj)
  obtain ⟨b, off, e, _, hc⟩ := h.cell (j / S.n) hk
  injection e with e
  subst e
  have hr := Nat.mod_lt j hp
  have h1 := flatF_get S l (j / S.n) hk (j % S.n) hr
  rw [Nat.div_add_mod'] at h1
  have hadd : (⟨b, off, none⟩ : Addr).add j = ⟨b, off + j, none⟩ := by unfold Addr.add; split <;> simp_all
  rw [hadd]
  have h2 := hc (j % S.n) u (by rw [← h1]; exact hu)
  rwa [Nat.add_assoc, Nat.div_add_mod'] at h2
end
theorem set_next' {α : Type} (l : List α) (z : α) (j : Nat) (h : j < l.length) (x : α) (hx : x = l[j]) :
    (l.take j ++ List.replicate (l.length - j) z).set j x = l.take (j + 1) ++ List.replicate (l.length - (j + 1)) z := by
  subst hx
  have e : l.length - j = (l.length - (j + 1)) + 1 := by omega
  rw [e, List.replicate_succ, List.set_append_right _ _ (by simp; omega)]
  have e2 : j - (l.take j).length = 0 := by simp; omega
  rw [e2, List.set_cons_zero, List.take_succ_eq_append_getElem h, List.append_assoc]
  rfl

/-- a message -/
structure Ev where
  i : Int
  d : Int
  c : Int
  b : ByteArray
  a : Int
  t : Int
  r : Int
  n : Int
  s : Int
def Ev.vals (e : Ev) : List Value := [.int .i64 e.i, .int .i64 e.d, .int .i64 e.c, .string e.b, .int .i64 e.a, .int .i64 e.t, .int .i64 e.r, .int .i64 e.n, .int .i64 e.s]
def evS : Shp Ev := ⟨9, Ev.vals, fun _ => rfl⟩
def ev0 : Ev := ⟨0, 0, 0, ByteArray.empty, 0, 0, 0, 0, 0⟩
/-- a row of messages, as read: bodies are texts, numbers are ints -/
structure EIs (B : Nat) (w : World) (a : Option Addr) (len : Nat) (l : List Ev) : Prop where
  row : RIs evS B w a len l
  body : ∀ e ∈ l, e.b.size ≤ maxLen
theorem EIs.below {B : Nat} {w w' : World} {a : Option Addr} {len : Nat} {l : List Ev} (h : EIs B w a len l) (hb : Below B w w') : EIs B w' a len l := ⟨h.row.below hb, h.body⟩
theorem EIs.mono {B B' : Nat} {w : World} {a : Option Addr} {len : Nat} {l : List Ev} (h : EIs B w a len l) (hB : B ≤ B') : EIs B' w a len l := ⟨h.row.mono hB, h.body⟩
theorem EIs.here {w w' : World} {a : Option Addr} {len : Nat} {l : List Ev} (h : EIs w.heap.size w a len l) (hb : Below w.heap.size w w') : EIs w'.heap.size w' a len l := (h.below hb).mono hb.size
theorem EIs.nil (B : Nat) (w : World) (a : Option Addr) : EIs B w a 0 [] := ⟨RIs.nil _ _ _, fun e he => by cases he⟩
/-- the cells of a message of a row, at block b from place o on -/
structure C9 (w : World) (b o : Nat) (i d c : Int) (bd : ByteArray) (a t r n s : Int) : Prop where
  c0 : w.cell? ⟨b, o, none⟩ = some (.int .i64 i)
  c1 : w.cell? ⟨b, o + 1, none⟩ = some (.int .i64 d)
  c2 : w.cell? ⟨b, o + 2, none⟩ = some (.int .i64 c)
  c3 : w.cell? ⟨b, o + 3, none⟩ = some (.string bd)
  c4 : w.cell? ⟨b, o + 4, none⟩ = some (.int .i64 a)
  c5 : w.cell? ⟨b, o + 5, none⟩ = some (.int .i64 t)
  c6 : w.cell? ⟨b, o + 6, none⟩ = some (.int .i64 r)
  c7 : w.cell? ⟨b, o + 7, none⟩ = some (.int .i64 n)
  c8 : w.cell? ⟨b, o + 8, none⟩ = some (.int .i64 s)
theorem EIs.at {B : Nat} {w : World} {a : Option Addr} {len : Nat} {l : List Ev} (h : EIs B w a len l) (k : Nat) (hk : k < l.length) :
    ∃ b off i d c bd at_ t r n s, a = some ⟨b, off, none⟩ ∧ b < B ∧ l[k] = ⟨i, d, c, bd, at_, t, r, n, s⟩ ∧ bd.size ≤ maxLen ∧ C9 w b (off + k * 9) i d c bd at_ t r n s := by
  obtain ⟨b, off, e, hlt, hc⟩ := h.row.cell k hk
  have hb := h.body l[k] (List.getElem_mem _)
  cases hl : l[k] with
  | mk i d c bd at_ t r n s =>
    rw [hl] at hc hb
    exact ⟨b, off, i, d, c, bd, at_, t, r, n, s, e, hlt, rfl, hb, hc 0 _ rfl, hc 1 _ rfl, hc 2 _ rfl, hc 3 _ rfl, hc 4 _ rfl, hc 5 _ rfl, hc 6 _ rfl, hc 7 _ rfl, hc 8 _ rfl⟩

/-- a link as it lies in a row: its slice is whatever value it is -/
structure Lr where
  up : Bool
  ep : Int
  sq : Int
  v : Value
def Lr.vals (e : Lr) : List Value := [.bool e.up, .int .i64 e.ep, .int .i64 e.sq, e.v]
def lrS : Shp Lr := ⟨4, Lr.vals, fun _ => rfl⟩
def lr0 : Lr := ⟨false, 0, 0, .slice none 0 0⟩
/-- a link -/
structure Lk where
  up : Bool
  ep : Int
  sq : Int
  l : List Lnk.Y
def lk0 : Lk := ⟨false, 0, 0, []⟩
/-- what lies in a row is this link -/
def LrIs (B : Nat) (w : World) (r : Lr) (k : Lk) : Prop := r.up = k.up ∧ r.ep = k.ep ∧ r.sq = k.sq ∧ ∃ a len cap, r.v = .slice a len cap ∧ Lnk.YIs B w a len k.l
theorem LrIs.below {B : Nat} {w w' : World} {r : Lr} {k : Lk} (h : LrIs B w r k) (hb : Below B w w') : LrIs B w' r k := by
  obtain ⟨h1, h2, h3, a, len, cap, h4, h5⟩ := h
  exact ⟨h1, h2, h3, a, len, cap, h4, h5.below hb⟩
theorem LrIs.mono {B B' : Nat} {w : World} {r : Lr} {k : Lk} (h : LrIs B w r k) (hB : B ≤ B') : LrIs B' w r k := by
  obtain ⟨h1, h2, h3, a, len, cap, h4, h5⟩ := h
  exact ⟨h1, h2, h3, a, len, cap, h4, h5.mono hB⟩
/-- a row of links, as read -/
structure LIs (B : Nat) (w : World) (a : Option Addr) (len : Nat) (l : List Lk) : Prop where
  ex : ∃ raw : List Lr, RIs lrS B w a len raw ∧ raw.length = l.length ∧ ∀ k (h : k < raw.length) (h' : k < l.length), LrIs B w raw[k] l[k]
theorem LIs.hlen {B : Nat} {w : World} {a : Option Addr} {len : Nat} {l : List Lk} (h : LIs B w a len l) : l.length = len := by
  obtain ⟨raw, h1, h2, _⟩ := h.ex
  rw [← h2, h1.hlen]
theorem LIs.le {B : Nat} {w : World} {a : Option Addr} {len : Nat} {l : List Lk} (h : LIs B w a len l) : len ≤ maxLen := by
  obtain ⟨raw, h1, h2, _⟩ := h.ex
  exact h1.le
theorem LIs.below {B : Nat} {w w' : World} {a : Option Addr} {len : Nat} {l : List Lk} (h : LIs B w a len l) (hb : Below B w w') : LIs B w' a len l := by
  obtain ⟨raw, h1, h2, h3⟩ := h.ex
  exact ⟨raw, h1.below hb, h2, fun k hk hk' => (h3 k hk hk').below hb⟩
theorem LIs.mono {B B' : Nat} {w : World} {a : Option Addr} {len : Nat} {l : List Lk} (h : LIs B w a len l) (hB : B ≤ B') : LIs B' w a len l := by
  obtain ⟨raw, h1, h2, h3⟩ := h.ex
  exact ⟨raw, h1.mono hB, h2, fun k hk hk' => (h3 k hk hk').mono hB⟩
theorem LIs.here {w w' : World} {a : Option Addr} {len : Nat} {l : List Lk} (h : LIs w.heap.size w a len l) (hb : Below w.heap.size w w') : LIs w'.heap.size w' a len l := (h.below hb).mono hb.size
theorem LIs.nil (B : Nat) (w : World) (a : Option Addr) : LIs B w a 0 [] := ⟨[], RIs.nil _ _ _, rfl, fun k hk => by simp at hk⟩
/-- the cells of a link of a row -/
structure C4 (w : World) (b o : Nat) (up : Bool) (ep sq : Int) (v : Value) : Prop where
  c0 : w.cell? ⟨b, o, none⟩ = some (.bool up)
  c1 : w.cell? ⟨b, o + 1, none⟩ = some (.int .i64 ep)
  c2 : w.cell? ⟨b, o + 2, none⟩ = some (.int .i64 sq)
  c3 : w.cell? ⟨b, o + 3, none⟩ = some v
theorem LIs.at {B : Nat} {w : World} {a : Option Addr} {len : Nat} {l : List Lk} (h : LIs B w a len l) (k : Nat) (hk : k < l.length) :
    ∃ b off up ep sq y fa fl fc, a = some ⟨b, off, none⟩ ∧ b < B ∧ l[k] = ⟨up, ep, sq, y⟩ ∧ Lnk.YIs B w fa fl y ∧ C4 w b (off + k * 4) up ep sq (.slice fa fl fc) := by
  obtain ⟨raw, h1, h2, h3⟩ := h.ex
  obtain ⟨b, off, e, hlt, hc⟩ := h1.cell k (by omega)
  obtain ⟨e1, e2, e3, fa, fl, fc, e4, hy⟩ := h3 k (by omega) hk
  cases hl : l[k] with
  | mk up ep sq y =>
    rw [hl] at e1 e2 e3 hy
    dsimp only at e1 e2 e3 hy
    have g0 := hc 0 _ rfl
    have g1 := hc 1 _ rfl
    have g2 := hc 2 _ rfl
    have g3 := hc 3 _ rfl
    rw [e1] at g0
    rw [e2] at g1
    rw [e3] at g2
    rw [e4] at g3
    exact ⟨b, off, up, ep, sq, y, fa, fl, fc, e, hlt, rfl, hy, g0, g1, g2, g3⟩
/-- what is told of a world holds in every world that has the same blocks from N on -/
def Fresh (N : Nat) (w : World) (Φ : World → Prop) : Prop := ∀ w', w.heap.size ≤ w'.heap.size → (∀ k, N ≤ k → k < w.heap.size → w'.heap[k]? = w.heap[k]?) → Φ w'
theorem Fresh.out {N : Nat} {w : World} {Φ : World → Prop} (h : Fresh N w Φ) : Φ w := h w (Nat.le_refl _) (fun _ _ _ => rfl)
theorem Fresh.step {N : Nat} {w w1 : World} {Φ : World → Prop} (h : Fresh N w Φ) (hs : w.heap.size ≤ w1.heap.size) (hh : ∀ k, N ≤ k → k < w.heap.size → w1.heap[k]? = w.heap[k]?) : Fresh N w1 Φ :=
  fun w' hs' hh' => h w' (Nat.le_trans hs hs') (fun k hN hk => (hh' k hN (by omega)).trans (hh k hN hk))
theorem Fresh.below {N : Nat} {w w1 : World} {Φ : World → Prop} (h : Fresh N w Φ) (hb : Below w.heap.size w w1) : Fresh N w1 Φ := h.step hb.size (fun k _ hk => hb.block k hk)
theorem Fresh.grown {N g : Nat} {w w1 : World} {Φ : World → Prop} (h : Fresh N w Φ) (hg : w.grownBy w1 (some g)) (hN : g < N) : Fresh N w1 Φ := h.step hg.size (fun k hk hl => hg.block k hl (fun e => by injection e; omega))
theorem Fresh.mono {N N' : Nat} {w : World} {Φ : World → Prop} (h : Fresh N w Φ) (hN : N' ≤ N) : Fresh N' w Φ := fun w' hs hh => h w' hs (fun k hk hl => hh k (by omega) hl)
theorem Fresh.imp {N : Nat} {w : World} {Φ Ψ : World → Prop} (h : Fresh N w Φ) (hi : ∀ w', Φ w' → Ψ w') : Fresh N w Ψ := fun w' hs hh => hi w' (h w' hs hh)
theorem Fresh.and {N : Nat} {w : World} {Φ Ψ : World → Prop} (h : Fresh N w Φ) (h2 : Fresh N w Ψ) : Fresh N w (fun w => Φ w ∧ Ψ w) := fun w' hs hh => ⟨h w' hs hh, h2 w' hs hh⟩
theorem own_agree {B size len : Nat} {E : TypeId} {v : Value} {xs : List Value} {w w' : World} (h : w.ownsRow B E size v len xs) (hh : ∀ k, B ≤ k → k < w.heap.size → w'.heap[k]? = w.heap[k]?) : w'.ownsRow B E size v len xs := by
  refine ⟨h.1, ?_⟩
  rcases h.2 with hn | ⟨g, cap, cur, rfl, hb, hgg, rest⟩
  · exact .inl hn
  · refine .inr ⟨g, cap, cur, rfl, hb, ?_, rest⟩
    rw [hh g hb (Array.getElem?_eq_some_iff.1 hgg).1]
    exact hgg
theorem ROwn.fresh {α : Type} {S : Shp α} {B : Nat} {w : World} {E : TypeId} {v : Value} {l : List α} (h : ROwn S B w E v l) : Fresh B w (fun w => ROwn S B w E v l) :=
  fun w' hs hh => own_agree h hh
theorem EIs.of_own {B : Nat} {w : World} {E : TypeId} {a : Option Addr} {n cap : Nat} {l : List Ev} (h : ROwn evS B w E (.slice a n cap) l) (hb : ∀ e ∈ l, e.b.size ≤ maxLen) : Fresh B w (fun w => EIs w.heap.size w a n l) :=
  h.fresh.imp fun w' h' => ⟨h'.isN, hb⟩
theorem IIs.of_own {B : Nat} {w : World} {a : Option Addr} {n cap : Nat} {l : List Int} (h : Lnk.IOwn B w (.slice a n cap) l) : Fresh B w (fun w => Lnk.IIs w.heap.size w a n l) :=
  fun w' hs hh => Lnk.IOwn.isN (own_agree h hh)
end Go.Proofs.Ytecfomaapomncaa.Gat
