/-
  Two boxes of links; the walks of the copies of links.
  What the laws do with links: measured, copied, compared, marked.
  Rows of structs in memory, whatever their shape: read, owned, stored into; rows of messages and of links.
  Plain facts on messages: when one is right, open, too old, ready; its box.
  The walks of EventOk, Knocked and Back, of the program and of the specification.
  How the exact laws take a message: its size, its copy, two messages compared; the walks of the laws FnExactEventOk, FnExactKnocked and FnExactBack.
  How great a gate is: the walks of the measures.
-/
import Derived.Test.YtkndpkingmemoaaDoorMga
import Derived.Lib.SliceRun
import Derived.Test.YtkndpkingmemoaaDoorProg
import Derived.WalkKit
import Derived.WalkSpells
import Derived.WalkLawsBesides
import Derived.Lib.Hide
import Derived.Deep.QuietTactic
import Derived.BigQuiet
import Derived.Below
import Derived.IntWalk
import Derived.Lib.Strings
namespace Go.Proofs.YtkndpkingmemoaaDoor.Lnk
open Go.RowKit
set_option linter.unusedVariables false

/-- a link that was handed back: new, and of the call's own -/
def LinkEnd (w w' : World) (up : Bool) (ep sq : Int) (l : List Y) (e : Ending) : Prop :=
  (∃ a cap, e = .returned (.agg #[.bool up, .int .i64 ep, .int .i64 sq, .slice a l.length cap]) ∧ YOwn w.heap.size w' 86 (.slice a l.length cap) l) ∧ Below w.heap.size w w'
/-- a slice of flies that was handed back -/
def SliceEnd (w w' : World) (l : List Y) (e : Ending) : Prop :=
  (∃ a cap, e = .returned (.slice a l.length cap) ∧ YOwn w.heap.size w' 86 (.slice a l.length cap) l) ∧ Below w.heap.size w w'

/-- the argument's box, and the box r of the answer -/
structure Fr2 (W w : World) (r : Nat) (up : Bool) (ep sq : Int) (a : Option Addr) (len cap : Nat) (l : List Y) : Prop where
  low : Below W.heap.size W w
  b0 : B4 w W.heap.size up ep sq (.slice a len cap)
  b1 : B4 w r false 0 0 (.slice none 0 0)
  f0 : Fr w W.heap.size
  f1 : Fr w r
  yis : YIs W.heap.size w a len l
  lt : W.heap.size < r
section
variable {W w w' : World} {r : Nat} {up : Bool} {ep sq : Int} {a : Option Addr} {len cap : Nat} {l l' : List Y}
theorem Fr2.two (w : World) (up : Bool) (ep sq : Int) (a : Option Addr) (len cap : Nat) (l : List Y) (h : YIs w.heap.size w a len l) (t1 t2 : TypeId) :
    Fr2 w ((w.alloc (.cells #[.bool up, .int .i64 ep, .int .i64 sq, .slice a len cap] t1)).alloc (.cells #[.bool false, .int .i64 0, .int .i64 0, .slice none 0 0] t2)) (w.heap.size + 1) up ep sq a len cap l := by
  have hb1 := bOne w (.cells #[.bool up, .int .i64 ep, .int .i64 sq, .slice a len cap] t1)
  have hb2 := bOne (w.alloc (.cells #[.bool up, .int .i64 ep, .int .i64 sq, .slice a len cap] t1)) (.cells #[.bool false, .int .i64 0, .int .i64 0, .slice none 0 0] t2)
  have hs : (w.alloc (.cells #[.bool up, .int .i64 ep, .int .i64 sq, .slice a len cap] t1)).heap.size = w.heap.size + 1 := by simp
  refine ⟨bAfter hb1 hb2 (by simp), (B4.new w _ _ _ _ t1).below hb2, ?_, (Fr.new w _ t1).low hb2 (by simp), ?_, (h.below hb1).below (hb2.mono (by simp)), by omega⟩
  · have := B4.new (w.alloc (.cells #[.bool up, .int .i64 ep, .int .i64 sq, .slice a len cap] t1)) false 0 0 (.slice none 0 0) t2
    rwa [hs] at this
  · have := Fr.new (w.alloc (.cells #[.bool up, .int .i64 ep, .int .i64 sq, .slice a len cap] t1)) #[.bool false, .int .i64 0, .int .i64 0, .slice none 0 0] t2
    rwa [hs] at this
theorem Fr2.step (h : Fr2 W w r up ep sq a len cap l) (hb : Below w.heap.size w w') : Fr2 W w' r up ep sq a len cap l :=
  ⟨low_after h.low hb, h.b0.below hb, h.b1.below hb, h.f0.low hb h.b0.lt, h.f1.low hb h.b1.lt, h.yis.below (hb.mono h.low.size), h.lt⟩
theorem Fr2.here (h : Fr2 W w r up ep sq a len cap l) : YIs w.heap.size w a len l := h.yis.mono h.low.size
theorem Fr2.cells (h : Fr2 W w r up ep sq a len cap l) : (w.cell? ⟨W.heap.size, 0, none⟩ = some (.bool up) ∧ w.cell? ⟨W.heap.size, 1, none⟩ = some (.int .i64 ep) ∧ w.cell? ⟨W.heap.size, 2, none⟩ = some (.int .i64 sq) ∧ w.cell? ⟨W.heap.size, 3, none⟩ = some (.slice a len cap)) ∧
    (w.cell? ⟨r, 0, none⟩ = some (.bool false) ∧ w.cell? ⟨r, 1, none⟩ = some (.int .i64 0) ∧ w.cell? ⟨r, 2, none⟩ = some (.int .i64 0) ∧ w.cell? ⟨r, 3, none⟩ = some (.slice none 0 0)) ∧
    (w.frozen? ⟨r, 0, none⟩ = false ∧ w.frozen? ⟨r, 1, none⟩ = false ∧ w.frozen? ⟨r, 2, none⟩ = false ∧ w.frozen? ⟨r, 3, none⟩ = false) ∧ w.frozen? ⟨W.heap.size, 3, none⟩ = false :=
  ⟨⟨h.b0.c0, h.b0.c1, h.b0.c2, h.b0.c3⟩, ⟨h.b1.c0, h.b1.c1, h.b1.c2, h.b1.c3⟩, ⟨h.f1 0, h.f1 1, h.f1 2, h.f1 3⟩, h.f0 3⟩
/-- behind the four stores into the answer's box -/
theorem Fr2.end_ (h : Fr2 W w r up ep sq a len cap l) {B : Nat} {v : Value} (ho : YOwn B w 86 v l') (hB : r < B) (x0 x1 x2 x3 : Value) :
    YOwn W.heap.size ((((w.setCell ⟨r, 0, none⟩ x0).setCell ⟨r, 1, none⟩ x1).setCell ⟨r, 2, none⟩ x2).setCell ⟨r, 3, none⟩ x3) 86 v l' ∧ Below W.heap.size W ((((w.setCell ⟨r, 0, none⟩ x0).setCell ⟨r, 1, none⟩ x1).setCell ⟨r, 2, none⟩ x2).setCell ⟨r, 3, none⟩ x3) := by
  have hl := h.lt
  exact ⟨((((ho.setLow hB _).setLow hB _).setLow hB _).setLow hB _).base (by omega), ((((h.low.setCell (by simp; omega) _).setCell (by simp; omega) _).setCell (by simp; omega) _).setCell (by simp; omega) _)⟩
theorem Fr2.endI (h : Fr2 W w r up ep sq a len cap l) {B : Nat} {v : Value} {xs : List Int} (ho : IOwn B w v xs) (hB : r < B) (x0 x1 x2 x3 : Value) :
    IOwn W.heap.size ((((w.setCell ⟨r, 0, none⟩ x0).setCell ⟨r, 1, none⟩ x1).setCell ⟨r, 2, none⟩ x2).setCell ⟨r, 3, none⟩ x3) v xs := by
  have hl := h.lt
  exact ((((ho.setLow hB _).setLow hB _).setLow hB _).setLow hB _).base (by omega)
end

set_option maxRecDepth 100000 in
set_option maxHeartbeats 1000000 in
theorem clone_walk (w : World) (a : Option Addr) (len cap : Nat) (l : List Y) (h : YIs w.heap.size w a len l) (hlen : len ≤ 1048576) :
    Calls Tryd.prog 59 #[.slice a len cap] w fun e w' => SliceEnd w w' l e := by
  have HL := Lib.hid h.hlen
  have hnil : ∀ (w : World) (a : Option Addr) (n c : Nat), (binOp .eql 42 (.slice a n c) (.slice none 0 0)).run Tryd.prog w = .ok (.bool a.isNone) w := fun w a n c => Lib.run_eql_slice_nil w _ _ a n c 0 0 Tryd.underlying42
  cases a with
  | none =>
    obtain ⟨rfl, rfl⟩ := h.none_nil
    clear h
    go_enter Tryd.func59, Tryd.ntmps59
    go_wp2_with fail
    go_ret
    exact ⟨⟨none, 0, rfl, YOwn.nil _ _ _⟩, Below.refl _ _⟩
  | some ad =>
    have HT := Lib.hid (h.here (bOne w (.cells #[] 86)))
    have HE := Lib.hid (ylit w 86)
    clear h
    go_enter Tryd.func59, Tryd.ntmps59
    go_wp2_with (first | (at_builtin; refine wpList_append_run rfl _ _ 42 rfl _ _ rfl rfl (app_yis Tryd.underlying42 HE.out HT.out (fun e => by cases e) (by simp; omega) (by simp)) ?_; intro v' w6 happ6) | fail)
    obtain ⟨a', c', rfl⟩ := YOwn.shape (l := l) happ6.1
    go_ret
    exact ⟨⟨a', c', rfl, happ6.1⟩, happ6.below (bOne w _) (Nat.le_refl _) (fun k e => by cases e; exact Nat.le_refl _)⟩

set_option maxRecDepth 100000 in
set_option maxHeartbeats 1000000 in
theorem copyLink_any (w : World) (a : Option Addr) (len cap : Nat) (up : Bool) (ep sq : Int) (l : List Y) (h : YIs w.heap.size w a len l) (hlen : len ≤ 1048576) :
    Calls Tryd.prog 44 #[.agg #[.bool up, .int .i64 ep, .int .i64 sq, .slice a len cap]] w fun e w' => LinkEnd w w' up ep sq l e := by
  have HF := Lib.hid (Fr2.two w up ep sq a len cap l h 44 44)
  clear h
  go_enter Tryd.func44, Tryd.ntmps44
  go_wp2_with fail
  refine (clone_walk _ a len cap l HF.out.here hlen).mono ?_
  rintro e w3 ⟨⟨a', cap', rfl, ho⟩, hb3⟩
  have HF3 := Lib.hid (HF.out.step hb3)
  have HO := Lib.hid ho
  have hz : w.heap.size + 2 ≤ w3.heap.size := by have := hb3.size; simp at this; omega
  clear hb3 ho
  obtain ⟨⟨c0, c1, c2, c3⟩, ⟨d0, d1, d2, d3⟩, ⟨f0, f1, f2, f3⟩, g3⟩ := HF3.out.cells
  go_wp2_with fail
  refine bodyPost_ret (v := .agg #[.bool up, .int .i64 ep, .int .i64 sq, .slice a' l.length cap']) (by simp [results, Tryd.results44, go_sem, d0, d1, d2, d3]) rfl ⟨⟨a', cap', rfl, ?_⟩, ?_⟩
  · exact (((((HO.out.setLow (by simp; omega) _).setLow (by simp) _).setLow (by simp) _).setLow (by simp) _).setLow (by simp) _).base (by simp; omega)
  · exact ((((HF3.out.low.setCell (by simp) _).setCell (by simp) _).setCell (by simp) _).setCell (by simp) _).setCell (by simp) _

end Go.Proofs.YtkndpkingmemoaaDoor.Lnk
namespace Go.Proofs.YtkndpkingmemoaaDoor.Lnk
open Go.RowKit
set_option linter.unusedVariables false

theorem bcell {W w1 : World} (hb : Below W.heap.size W w1) : (∀ b o, b < W.heap.size → w1.cell? ⟨b, o, none⟩ = W.cell? ⟨b, o, none⟩) ∧ (∀ b o, b < W.heap.size → w1.frozen? ⟨b, o, none⟩ = W.frozen? ⟨b, o, none⟩) :=
  ⟨fun b o h => hb.cell (p := ⟨b, o, none⟩) h, fun b o h => hb.frozen (p := ⟨b, o, none⟩) h⟩

end Go.Proofs.YtkndpkingmemoaaDoor.Lnk
namespace Go.Proofs.YtkndpkingmemoaaDoor.Gat
open Go.RowKit
set_option linter.unusedVariables false

/-- a struct's cells -/
structure Shp (α : Type) where
  n : Nat
  f : α → List Value
  hn : ∀ x, (f x).length = n
section
variable {α : Type} (S : Shp α)
def flatF (l : List α) : List Value := l.flatMap S.f
theorem flatF_cons (x : α) (l : List α) : flatF S (x :: l) = S.f x ++ flatF S l := rfl
theorem flatF_app (l m : List α) : flatF S (l ++ m) = flatF S l ++ flatF S m := by simp [flatF]
theorem flatF_len : ∀ l : List α, (flatF S l).length = l.length * S.n
  | [] => by simp [flatF]
  | x :: l => by rw [flatF_cons, List.length_append, S.hn, flatF_len l, List.length_cons, Nat.add_mul]; omega
theorem flatF_get : ∀ (l : List α) (k : Nat) (h : k < l.length) (i : Nat), i < S.n → (flatF S l)[k * S.n + i]? = (S.f l[k])[i]?
  | [], k, h, _, _ => by simp at h
  | x :: l, 0, _, i, hi => by
    rw [flatF_cons, Nat.zero_mul, Nat.zero_add, List.getElem?_append_left (by rw [S.hn]; exact hi)]
    rfl
  | x :: l, k + 1, h, i, hi => by
    rw [flatF_cons, List.getElem?_append_right (by rw [S.hn, Nat.add_mul]; omega), S.hn]
    have e : (k + 1) * S.n + i - S.n = k * S.n + i := by rw [Nat.add_mul]; omega
    rw [e]
    exact flatF_get l k (by simpa using h) i hi
def setMany : List Value → Nat → List Value → List Value
  | xs, _, [] => xs
  | xs, o, v :: vs => setMany (xs.set o v) (o + 1) vs
theorem setMany_mid : ∀ (new old pre post : List Value), old.length = new.length → setMany (pre ++ old ++ post) pre.length new = pre ++ new ++ post
  | [], old, pre, post, h => by
    have : old = [] := List.length_eq_zero_iff.1 (by simpa using h)
    subst this
    rfl
  | v :: new, [], pre, post, h => by simp at h
  | v :: new, o :: old, pre, post, h => by
    have e : (pre ++ o :: old ++ post).set pre.length v = (pre ++ [v]) ++ old ++ post := by simp
    rw [setMany, e]
    have := setMany_mid new old (pre ++ [v]) post (by simpa using h)
    simpa using this
theorem flatF_set (l : List α) (k : Nat) (x : α) (h : k < l.length) : setMany (flatF S l) (k * S.n) (S.f x) = flatF S (l.set k x) := by
  have e : l = l.take k ++ l[k] :: l.drop (k + 1) := by simp
  have e2 : l.set k x = l.take k ++ x :: l.drop (k + 1) := by
    rw [List.set_eq_take_append_cons_drop, if_pos h]
  have h1 : flatF S l = flatF S (l.take k) ++ S.f l[k] ++ flatF S (l.drop (k + 1)) := by
    conv => lhs; rw [e]
    rw [flatF_app, flatF_cons, List.append_assoc]
  have h2 : (flatF S (l.take k)).length = k * S.n := by rw [flatF_len]; simp [Nat.min_eq_left (Nat.le_of_lt h)]
  rw [h1, e2, flatF_app, flatF_cons, ← List.append_assoc]
  have := setMany_mid (S.f x) (S.f l[k]) (flatF S (l.take k)) (flatF S (l.drop (k + 1))) (by rw [S.hn, S.hn])
  rwa [h2] at this
theorem flatF_made (z : Value) (x : α) (m : Nat) (hp : 0 < S.n) (hz : z.cells.toList = S.f x) : (madeCells z.cells (m * S.n)).toList = flatF S (List.replicate m x) := by
  have hsz : z.cells.size = S.n := by rw [← Array.length_toList, hz, S.hn]
  apply List.ext_getElem?
  intro j
  by_cases hj : j < m * S.n
  · have hk : j / S.n < (List.replicate m x).length := by rw [List.length_replicate]; exact Nat.div_lt_of_lt_mul (by rwa [Nat.mul_comm] at hj)
    have hr := Nat.mod_lt j hp
    have h1 := flatF_get S _ (j / S.n) hk (j % S.n) hr
    rw [Nat.div_add_mod'] at h1
    rw [h1]
    simp only [madeCells, Array.toList_map, Array.toList_range, List.getElem?_map, List.getElem?_range hj, Option.map_some, hsz]
    rw [List.getElem_replicate, ← hz, Array.getElem?_toList, Array.getElem?_eq_getElem (by rw [hsz]; exact hr), getElem!_pos z.cells (j % S.n) (by rw [hsz]; exact hr)]
  · rw [List.getElem?_eq_none (by simp [madeCells]; omega), List.getElem?_eq_none (by rw [flatF_len]; simp; omega)]

/-- a slice of structs, as read -/
structure RIs (B : Nat) (w : World) (a : Option Addr) (len : Nat) (l : List α) : Prop where
  hlen : l.length = len
  le : len ≤ maxLen
  cell : ∀ k (h : k < l.length), ∃ b off, a = some ⟨b, off, none⟩ ∧ b < B ∧ ∀ i u, (S.f l[k])[i]? = some u → w.cell? ⟨b, off + k * S.n + i, none⟩ = some u
variable {S}
theorem RIs.below {B : Nat} {w w' : World} {a : Option Addr} {len : Nat} {l : List α} (h : RIs S B w a len l) (hb : Below B w w') : RIs S B w' a len l :=
  ⟨h.hlen, h.le, fun k hk => by
    obtain ⟨b, off, e, hlt, h0⟩ := h.cell k hk
    exact ⟨b, off, e, hlt, fun i u hu => (hb.cell (p := ⟨b, off + k * S.n + i, none⟩) hlt).trans (h0 i u hu)⟩⟩
theorem RIs.mono {B B' : Nat} {w : World} {a : Option Addr} {len : Nat} {l : List α} (h : RIs S B w a len l) (hB : B ≤ B') : RIs S B' w a len l :=
  ⟨h.hlen, h.le, fun k hk => by
    obtain ⟨b, off, e, hlt, h0⟩ := h.cell k hk
    exact ⟨b, off, e, Nat.lt_of_lt_of_le hlt hB, h0⟩⟩
theorem RIs.here {w w' : World} {a : Option Addr} {len : Nat} {l : List α} (h : RIs S w.heap.size w a len l) (hb : Below w.heap.size w w') : RIs S w'.heap.size w' a len l := (h.below hb).mono hb.size
theorem RIs.nil (B : Nat) (w : World) (a : Option Addr) : RIs S B w a 0 [] := ⟨rfl, by unfold maxLen; omega, fun k hk => by simp at hk⟩

variable (S)
/-- a slice of structs of the call's own -/
def ROwn (B : Nat) (w : World) (E : TypeId) (v : Value) (l : List α) : Prop := w.ownsRow B E S.n v l.length (flatF S l)
variable {S}
theorem ROwn.is {B : Nat} {w : World} {E : TypeId} {a : Option Addr} {n cap : Nat} {l : List α} (h : ROwn S B w E (.slice a n cap) l) : n = l.length ∧ RIs S w.heap.size w a l.length l := by
  unfold ROwn at h
  rcases h.2 with ⟨e, h0⟩ | ⟨g, c, cur, e, hb, hg, hn, hm, hs, ht⟩
  · simp only [Value.slice.injEq] at e
    obtain ⟨rfl, rfl, rfl⟩ := e
    exact ⟨h0.symm, rfl, by unfold maxLen; omega, fun k hk => by omega⟩
  · simp only [Value.slice.injEq] at e
    obtain ⟨rfl, rfl, rfl⟩ := e
    refine ⟨rfl, rfl, by omega, fun k hk => ⟨g, 0, rfl, (h.lt g rfl).2, fun i u hu => ?_⟩⟩
    have hi : i < S.n := by
      have := (List.getElem?_eq_some_iff.1 hu).1
      rwa [S.hn] at this
    have hlt : k * S.n + i < l.length * S.n := by
      have : (k + 1) * S.n ≤ l.length * S.n := Nat.mul_le_mul_right _ hk
      rw [Nat.add_mul] at this
      omega
    rw [Nat.zero_add, h.cellAt _ hlt, flatF_get S l k hk i hi]
    exact hu
theorem ROwn.isN {B : Nat} {w : World} {E : TypeId} {a : Option Addr} {n cap : Nat} {l : List α} (h : ROwn S B w E (.slice a n cap) l) : RIs S w.heap.size w a n l := by
  have h1 := h.is
  rw [h1.1]
  exact h1.2
theorem ROwn.shape {B : Nat} {w : World} {E : TypeId} {v : Value} {l : List α} (h : ROwn S B w E v l) : ∃ a cap, v = .slice a l.length cap := by
  rcases h.2 with ⟨e, h0⟩ | ⟨g, c, cur, e, _⟩
  · exact ⟨none, 0, by rw [e, h0]⟩
  · exact ⟨_, _, e⟩
theorem ROwn.grown {B : Nat} {w w' : World} {E : TypeId} {v : Value} {l : List α} {r : Option Nat} (h : ROwn S B w E v l) (hg : w.grownBy w' r) (hne : v.ownBlock = none ∨ v.ownBlock ≠ r) : ROwn S B w' E v l := World.ownsRow.kept h hg hne
theorem ROwn.below {B : Nat} {w w' : World} {E : TypeId} {v : Value} {l : List α} (h : ROwn S B w E v l) (hb : Below w.heap.size w w') : ROwn S B w' E v l :=
  h.grown (Lnk.grown_of_below hb none) (by
    cases hv : v.ownBlock with
    | none => exact .inl rfl
    | some k => exact .inr (by simp))
theorem ROwn.base {B B' : Nat} {w : World} {E : TypeId} {v : Value} {l : List α} (h : ROwn S B w E v l) (hB : B' ≤ B) : ROwn S B' w E v l := by
  refine ⟨h.1, ?_⟩
  rcases h.2 with e | ⟨g, c, cur, e, hb, r⟩
  · exact .inl e
  · exact .inr ⟨g, c, cur, e, by omega, r⟩
theorem ROwn.setLow {B : Nat} {w : World} {E : TypeId} {v : Value} {l : List α} (h : ROwn S B w E v l) {p : Addr} (hp : p.block < B) (u : Value) : ROwn S B (w.setCell p u) E v l := by
  refine World.ownsRow.kept h (row := some p.block) ⟨rfl, rfl, rfl, by simp, fun k _ hk => heap_setCell_other w p k u (fun e => hk (by simp [e]))⟩ ?_
  cases hv : v.ownBlock with
  | none => exact .inl rfl
  | some k =>
    have := (World.ownsRow.lt h k hv).1
    exact .inr (fun e => by injection e with e; omega)
theorem ROwn.nil (B : Nat) (w : World) (E : TypeId) : ROwn S B w E (.slice none 0 0) [] := World.ownsRow_nil _ _ _ _
theorem ROwn.lit (w : World) (E : TypeId) : ROwn S w.heap.size (w.alloc (.cells #[] E)) E (.slice (some ⟨w.heap.size, 0, none⟩) 0 0) [] :=
  World.ownsRow_lit (base := w.heap.size) (e := E) (size := S.n) w #[] 0 (Nat.le_refl _) (by unfold maxLen; omega) (by simp)
theorem ROwn.frozenAt {B : Nat} {w : World} {E : TypeId} {g n cap : Nat} {l : List α} (h : ROwn S B w E (.slice (some ⟨g, 0, none⟩) n cap) l) (j : Nat) : w.frozen? ⟨g, j, none⟩ = false := by
  have hn := h.is.1
  subst hn
  exact World.ownsRow.frozenAt h j
theorem ROwn.cellAt {B : Nat} {w : World} {E : TypeId} {g n cap : Nat} {l : List α} (h : ROwn S B w E (.slice (some ⟨g, 0, none⟩) n cap) l) (k : Nat) (hk : k < l.length) (i : Nat) (u : Value) (hu : (S.f l[k])[i]? = some u) : w.cell? ⟨g, k * S.n + i, none⟩ = some u := by
  have hn := h.is.1
  subst hn
  obtain ⟨b, off, e, hlt, hc⟩ := h.is.2.cell k hk
  simp only [Option.some.injEq, Addr.mk.injEq, and_true] at e
  obtain ⟨rfl, rfl⟩ := e
  have := hc i u hu
  rwa [Nat.zero_add] at this
def storeMany : World → Nat → Nat → List Value → World
  | w, _, _, [] => w
  | w, g, o, v :: vs => storeMany (w.setCell ⟨g, o, none⟩ v) g (o + 1) vs
theorem stored_many {B : Nat} {E : TypeId} {size g n cap : Nat} : ∀ (vs : List Value) (o : Nat) (w : World) (xs : List Value), w.ownsRow B E size (.slice (some ⟨g, 0, none⟩) n cap) n xs →
    (storeMany w g o vs).ownsRow B E size (.slice (some ⟨g, 0, none⟩) n cap) n (setMany xs o vs) ∧ w.grownBy (storeMany w g o vs) (some g)
  | [], o, w, xs, h => ⟨h, rfl, rfl, rfl, Nat.le_refl _, fun _ _ _ => rfl⟩
  | v :: vs, o, w, xs, h => by
    have h1 := h.stored o v
    have h2 := stored_many vs (o + 1) _ _ h1.1
    exact ⟨h2.1, h1.2.trans h2.2⟩
theorem ROwn.set {B : Nat} {w : World} {E : TypeId} {g cap n : Nat} {l : List α} (h : ROwn S B w E (.slice (some ⟨g, 0, none⟩) n cap) l) (k : Nat) (hk : k < l.length) (x : α) :
    ROwn S B (storeMany w g (k * S.n) (S.f x)) E (.slice (some ⟨g, 0, none⟩) n cap) (l.set k x) ∧ w.grownBy (storeMany w g (k * S.n) (S.f x)) (some g) := by
  have hn : n = l.length := h.is.1
  subst hn
  have h1 := stored_many (S.f x) (k * S.n) w _ h
  rw [flatF_set S l k x hk] at h1
  refine ⟨?_, h1.2⟩
  unfold ROwn
  rw [List.length_set]
  exact h1.1
theorem RIs.none_nil {B : Nat} {w : World} {len : Nat} {l : List α} (h : RIs S B w none len l) : l = [] ∧ len = 0 := by
  have hl0 : l = [] := by
    cases hc : l with
    | nil => rfl
    | cons t r =>
      obtain ⟨b, off, e, _⟩ := h.cell 0 (by rw [hc]; simp)
      cases e
  subst hl0
  exact ⟨rfl, by have := h.hlen; simpa using this.symm⟩
theorem RIs.flat {B : Nat} {w : World} {ad : Addr} {len : Nat} {l : List α} (h : RIs S B w (some ad) len l) (hp : 0 < S.n) : ∀ j u, (flatF S l)[j]? = some u → w.cell? (ad.add j) = some u := by
  intro j u hu
  have hj : j < l.length * S.n := by
    have := (List.getElem?_eq_some_iff.1 hu).1
    rwa [flatF_len] at this
  have hk : j / S.n < l.length := Nat.div_lt_of_lt_mul (by rwa [Nat.mul_comm] at hj)
  obtain ⟨b, off, e, _, hc⟩ := h.cell (j / S.n) hk
  injection e with e
  subst e
  have hr := Nat.mod_lt j hp
  have h1 := flatF_get S l (j / S.n) hk (j % S.n) hr
  rw [Nat.div_add_mod'] at h1
  have hadd : (⟨b, off, none⟩ : Addr).add j = ⟨b, off + j, none⟩ := by unfold Addr.add; split <;> simp_all
  rw [hadd]
  have h2 := hc (j % S.n) u (by rw [← h1]; exact hu)
  rwa [Nat.add_assoc, Nat.div_add_mod'] at h2
end
/-- a message -/
structure Ev where
  i : Int
  d : Int
  c : Int
  b : ByteArray
  a : Int
  t : Int
  r : Int
  n : Int
  s : Int
def Ev.vals (e : Ev) : List Value := [.int .i64 e.i, .int .i64 e.d, .int .i64 e.c, .string e.b, .int .i64 e.a, .int .i64 e.t, .int .i64 e.r, .int .i64 e.n, .int .i64 e.s]
def evS : Shp Ev := ⟨9, Ev.vals, fun _ => rfl⟩
def ev0 : Ev := ⟨0, 0, 0, ByteArray.empty, 0, 0, 0, 0, 0⟩
/-- a row of messages, as read: bodies are texts, numbers are ints -/
structure EIs (B : Nat) (w : World) (a : Option Addr) (len : Nat) (l : List Ev) : Prop where
  row : RIs evS B w a len l
  body : ∀ e ∈ l, e.b.size ≤ maxLen
theorem EIs.below {B : Nat} {w w' : World} {a : Option Addr} {len : Nat} {l : List Ev} (h : EIs B w a len l) (hb : Below B w w') : EIs B w' a len l := ⟨h.row.below hb, h.body⟩
theorem EIs.mono {B B' : Nat} {w : World} {a : Option Addr} {len : Nat} {l : List Ev} (h : EIs B w a len l) (hB : B ≤ B') : EIs B' w a len l := ⟨h.row.mono hB, h.body⟩
theorem EIs.here {w w' : World} {a : Option Addr} {len : Nat} {l : List Ev} (h : EIs w.heap.size w a len l) (hb : Below w.heap.size w w') : EIs w'.heap.size w' a len l := (h.below hb).mono hb.size
theorem EIs.nil (B : Nat) (w : World) (a : Option Addr) : EIs B w a 0 [] := ⟨RIs.nil _ _ _, fun e he => by cases he⟩
/-- the cells of a message of a row, at block b from place o on -/
structure C9 (w : World) (b o : Nat) (i d c : Int) (bd : ByteArray) (a t r n s : Int) : Prop where
  c0 : w.cell? ⟨b, o, none⟩ = some (.int .i64 i)
  c1 : w.cell? ⟨b, o + 1, none⟩ = some (.int .i64 d)
  c2 : w.cell? ⟨b, o + 2, none⟩ = some (.int .i64 c)
  c3 : w.cell? ⟨b, o + 3, none⟩ = some (.string bd)
  c4 : w.cell? ⟨b, o + 4, none⟩ = some (.int .i64 a)
  c5 : w.cell? ⟨b, o + 5, none⟩ = some (.int .i64 t)
  c6 : w.cell? ⟨b, o + 6, none⟩ = some (.int .i64 r)
  c7 : w.cell? ⟨b, o + 7, none⟩ = some (.int .i64 n)
  c8 : w.cell? ⟨b, o + 8, none⟩ = some (.int .i64 s)
theorem EIs.at {B : Nat} {w : World} {a : Option Addr} {len : Nat} {l : List Ev} (h : EIs B w a len l) (k : Nat) (hk : k < l.length) :
    ∃ b off i d c bd at_ t r n s, a = some ⟨b, off, none⟩ ∧ b < B ∧ l[k] = ⟨i, d, c, bd, at_, t, r, n, s⟩ ∧ bd.size ≤ maxLen ∧ C9 w b (off + k * 9) i d c bd at_ t r n s := by
  obtain ⟨b, off, e, hlt, hc⟩ := h.row.cell k hk
  have hb := h.body l[k] (List.getElem_mem _)
  cases hl : l[k] with
  | mk i d c bd at_ t r n s =>
    rw [hl] at hc hb
    exact ⟨b, off, i, d, c, bd, at_, t, r, n, s, e, hlt, rfl, hb, hc 0 _ rfl, hc 1 _ rfl, hc 2 _ rfl, hc 3 _ rfl, hc 4 _ rfl, hc 5 _ rfl, hc 6 _ rfl, hc 7 _ rfl, hc 8 _ rfl⟩

/-- a link as it lies in a row: its slice is whatever value it is -/
structure Lr where
  up : Bool
  ep : Int
  sq : Int
  v : Value
def Lr.vals (e : Lr) : List Value := [.bool e.up, .int .i64 e.ep, .int .i64 e.sq, e.v]
def lrS : Shp Lr := ⟨4, Lr.vals, fun _ => rfl⟩
def lr0 : Lr := ⟨false, 0, 0, .slice none 0 0⟩
/-- a link -/
structure Lk where
  up : Bool
  ep : Int
  sq : Int
  l : List Lnk.Y
def lk0 : Lk := ⟨false, 0, 0, []⟩
/-- what lies in a row is this link -/
def LrIs (B : Nat) (w : World) (r : Lr) (k : Lk) : Prop := r.up = k.up ∧ r.ep = k.ep ∧ r.sq = k.sq ∧ ∃ a len cap, r.v = .slice a len cap ∧ Lnk.YIs B w a len k.l
theorem LrIs.below {B : Nat} {w w' : World} {r : Lr} {k : Lk} (h : LrIs B w r k) (hb : Below B w w') : LrIs B w' r k := by
  obtain ⟨h1, h2, h3, a, len, cap, h4, h5⟩ := h
  exact ⟨h1, h2, h3, a, len, cap, h4, h5.below hb⟩
theorem LrIs.mono {B B' : Nat} {w : World} {r : Lr} {k : Lk} (h : LrIs B w r k) (hB : B ≤ B') : LrIs B' w r k := by
  obtain ⟨h1, h2, h3, a, len, cap, h4, h5⟩ := h
  exact ⟨h1, h2, h3, a, len, cap, h4, h5.mono hB⟩
/-- a row of links, as read -/
structure LIs (B : Nat) (w : World) (a : Option Addr) (len : Nat) (l : List Lk) : Prop where
  ex : ∃ raw : List Lr, RIs lrS B w a len raw ∧ raw.length = l.length ∧ ∀ k (h : k < raw.length) (h' : k < l.length), LrIs B w raw[k] l[k]
theorem LIs.hlen {B : Nat} {w : World} {a : Option Addr} {len : Nat} {l : List Lk} (h : LIs B w a len l) : l.length = len := by
  obtain ⟨raw, h1, h2, _⟩ := h.ex
  rw [← h2, h1.hlen]
theorem LIs.le {B : Nat} {w : World} {a : Option Addr} {len : Nat} {l : List Lk} (h : LIs B w a len l) : len ≤ maxLen := by
  obtain ⟨raw, h1, h2, _⟩ := h.ex
  exact h1.le
theorem LIs.below {B : Nat} {w w' : World} {a : Option Addr} {len : Nat} {l : List Lk} (h : LIs B w a len l) (hb : Below B w w') : LIs B w' a len l := by
  obtain ⟨raw, h1, h2, h3⟩ := h.ex
  exact ⟨raw, h1.below hb, h2, fun k hk hk' => (h3 k hk hk').below hb⟩
theorem LIs.mono {B B' : Nat} {w : World} {a : Option Addr} {len : Nat} {l : List Lk} (h : LIs B w a len l) (hB : B ≤ B') : LIs B' w a len l := by
  obtain ⟨raw, h1, h2, h3⟩ := h.ex
  exact ⟨raw, h1.mono hB, h2, fun k hk hk' => (h3 k hk hk').mono hB⟩
theorem LIs.here {w w' : World} {a : Option Addr} {len : Nat} {l : List Lk} (h : LIs w.heap.size w a len l) (hb : Below w.heap.size w w') : LIs w'.heap.size w' a len l := (h.below hb).mono hb.size
theorem LIs.nil (B : Nat) (w : World) (a : Option Addr) : LIs B w a 0 [] := ⟨[], RIs.nil _ _ _, rfl, fun k hk => by simp at hk⟩
/-- the cells of a link of a row -/
structure C4 (w : World) (b o : Nat) (up : Bool) (ep sq : Int) (v : Value) : Prop where
  c0 : w.cell? ⟨b, o, none⟩ = some (.bool up)
  c1 : w.cell? ⟨b, o + 1, none⟩ = some (.int .i64 ep)
  c2 : w.cell? ⟨b, o + 2, none⟩ = some (.int .i64 sq)
  c3 : w.cell? ⟨b, o + 3, none⟩ = some v
theorem LIs.at {B : Nat} {w : World} {a : Option Addr} {len : Nat} {l : List Lk} (h : LIs B w a len l) (k : Nat) (hk : k < l.length) :
    ∃ b off up ep sq y fa fl fc, a = some ⟨b, off, none⟩ ∧ b < B ∧ l[k] = ⟨up, ep, sq, y⟩ ∧ Lnk.YIs B w fa fl y ∧ C4 w b (off + k * 4) up ep sq (.slice fa fl fc) := by
  obtain ⟨raw, h1, h2, h3⟩ := h.ex
  obtain ⟨b, off, e, hlt, hc⟩ := h1.cell k (by omega)
  obtain ⟨e1, e2, e3, fa, fl, fc, e4, hy⟩ := h3 k (by omega) hk
  cases hl : l[k] with
  | mk up ep sq y =>
    rw [hl] at e1 e2 e3 hy
    dsimp only at e1 e2 e3 hy
    have g0 := hc 0 _ rfl
    have g1 := hc 1 _ rfl
    have g2 := hc 2 _ rfl
    have g3 := hc 3 _ rfl
    rw [e1] at g0
    rw [e2] at g1
    rw [e3] at g2
    rw [e4] at g3
    exact ⟨b, off, up, ep, sq, y, fa, fl, fc, e, hlt, rfl, hy, g0, g1, g2, g3⟩
/-- what is told of a world holds in every world that has the same blocks from N on -/
def Fresh (N : Nat) (w : World) (Φ : World → Prop) : Prop := ∀ w', w.heap.size ≤ w'.heap.size → (∀ k, N ≤ k → k < w.heap.size → w'.heap[k]? = w.heap[k]?) → Φ w'
theorem Fresh.out {N : Nat} {w : World} {Φ : World → Prop} (h : Fresh N w Φ) : Φ w := h w (Nat.le_refl _) (fun _ _ _ => rfl)
theorem Fresh.step {N : Nat} {w w1 : World} {Φ : World → Prop} (h : Fresh N w Φ) (hs : w.heap.size ≤ w1.heap.size) (hh : ∀ k, N ≤ k → k < w.heap.size → w1.heap[k]? = w.heap[k]?) : Fresh N w1 Φ :=
  fun w' hs' hh' => h w' (Nat.le_trans hs hs') (fun k hN hk => (hh' k hN (by omega)).trans (hh k hN hk))
theorem Fresh.below {N : Nat} {w w1 : World} {Φ : World → Prop} (h : Fresh N w Φ) (hb : Below w.heap.size w w1) : Fresh N w1 Φ := h.step hb.size (fun k _ hk => hb.block k hk)
theorem Fresh.grown {N g : Nat} {w w1 : World} {Φ : World → Prop} (h : Fresh N w Φ) (hg : w.grownBy w1 (some g)) (hN : g < N) : Fresh N w1 Φ := h.step hg.size (fun k hk hl => hg.block k hl (fun e => by injection e; omega))
theorem Fresh.mono {N N' : Nat} {w : World} {Φ : World → Prop} (h : Fresh N w Φ) (hN : N' ≤ N) : Fresh N' w Φ := fun w' hs hh => h w' hs (fun k hk hl => hh k (by omega) hl)
theorem Fresh.and {N : Nat} {w : World} {Φ Ψ : World → Prop} (h : Fresh N w Φ) (h2 : Fresh N w Ψ) : Fresh N w (fun w => Φ w ∧ Ψ w) := fun w' hs hh => ⟨h w' hs hh, h2 w' hs hh⟩
theorem own_agree {B size len : Nat} {E : TypeId} {v : Value} {xs : List Value} {w w' : World} (h : w.ownsRow B E size v len xs) (hh : ∀ k, B ≤ k → k < w.heap.size → w'.heap[k]? = w.heap[k]?) : w'.ownsRow B E size v len xs := by
  refine ⟨h.1, ?_⟩
  rcases h.2 with hn | ⟨g, cap, cur, rfl, hb, hgg, rest⟩
  · exact .inl hn
  · refine .inr ⟨g, cap, cur, rfl, hb, ?_, rest⟩
    rw [hh g hb (Array.getElem?_eq_some_iff.1 hgg).1]
    exact hgg
theorem ROwn.fresh {α : Type} {S : Shp α} {B : Nat} {w : World} {E : TypeId} {v : Value} {l : List α} (h : ROwn S B w E v l) : Fresh B w (fun w => ROwn S B w E v l) :=
  fun w' hs hh => own_agree h hh
end Go.Proofs.YtkndpkingmemoaaDoor.Gat
namespace Go.Proofs.YtkndpkingmemoaaDoor.Evt
open Go.RowKit
set_option linter.unusedVariables false

theorem bool_iff {p q : Prop} [Decidable p] [Decidable q] (h : p ↔ q) : Ending.returned (.bool (decide p)) = Ending.returned (.bool (decide q)) := by rw [decide_eq_decide.2 h]
theorem bool_no {p : Prop} [Decidable p] (h : ¬ p) : Ending.returned (.bool false) = Ending.returned (.bool (decide p)) := by rw [decide_eq_false h]
theorem bOne (w : World) (o : Obj) : Below w.heap.size w (w.alloc o) := (Below.refl _ _).alloc (Nat.le_refl _) _
theorem bAfter {B : Nat} {a w w' : World} (h : Below B a w) (h2 : Below w.heap.size w w') (hB : B ≤ w.heap.size) : Below B a w' := h.trans (h2.mono hB)

/-- a right message, m bytes in its body -/
def EOk (i d c : Int) (m : Nat) (a t r n s : Int) : Prop :=
  1 ≤ i ∧ i ≤ 9999 ∧ 1 ≤ d ∧ d ≤ 6 ∧ 1 ≤ c ∧ c ≤ 9 ∧ m ≤ 40 ∧ 0 ≤ a ∧ a ≤ 1000000000 ∧ 1 ≤ t ∧ t ≤ 1000000 ∧ 0 ≤ r ∧ r ≤ 100000 ∧ 0 ≤ n ∧ n ≤ 2000000000 ∧ 0 ≤ s ∧ s ≤ 3
instance (i d c : Int) (m : Nat) (a t r n s : Int) : Decidable (EOk i d c m a t r n s) := by unfold EOk; infer_instance
def eokB (i d c : Int) (m : Nat) (a t r n s : Int) : Bool := decide (EOk i d c m a t r n s)
theorem eokB_yes {i d c : Int} {m : Nat} {a t r n s : Int} (h : EOk i d c m a t r n s) : eokB i d c m a t r n s = true := decide_eq_true h
theorem eokB_no {i d c : Int} {m : Nat} {a t r n s : Int} (h : ¬ EOk i d c m a t r n s) : eokB i d c m a t r n s = false := decide_eq_false h
/-- the times of a right message -/
def TOk (a t n : Int) : Prop := 0 ≤ a ∧ a ≤ 1000000000 ∧ 1 ≤ t ∧ t ≤ 1000000 ∧ 0 ≤ n ∧ n ≤ 2000000000
instance (a t n : Int) : Decidable (TOk a t n) := by unfold TOk; infer_instance
def tokB (a t n : Int) : Bool := decide (TOk a t n)
def inB (lo hi x : Int) : Bool := decide (lo ≤ x ∧ x ≤ hi)
/-- the status behind Back -/
def bk (s : Int) : Int := if s = 1 then 0 else s

/-- a message's value -/
abbrev ev (i d c : Int) (b : ByteArray) (a t r n s : Int) : Value := .agg #[.int .i64 i, .int .i64 d, .int .i64 c, .string b, .int .i64 a, .int .i64 t, .int .i64 r, .int .i64 n, .int .i64 s]
/-- a message's box -/
structure B9 (w : World) (k : Nat) (i d c : Int) (b : ByteArray) (a t r n s : Int) : Prop where
  c0 : w.cell? ⟨k, 0, none⟩ = some (.int .i64 i)
  c1 : w.cell? ⟨k, 1, none⟩ = some (.int .i64 d)
  c2 : w.cell? ⟨k, 2, none⟩ = some (.int .i64 c)
  c3 : w.cell? ⟨k, 3, none⟩ = some (.string b)
  c4 : w.cell? ⟨k, 4, none⟩ = some (.int .i64 a)
  c5 : w.cell? ⟨k, 5, none⟩ = some (.int .i64 t)
  c6 : w.cell? ⟨k, 6, none⟩ = some (.int .i64 r)
  c7 : w.cell? ⟨k, 7, none⟩ = some (.int .i64 n)
  c8 : w.cell? ⟨k, 8, none⟩ = some (.int .i64 s)
  lt : k < w.heap.size
theorem B9.new (w : World) (i d c : Int) (b : ByteArray) (a t r n s : Int) (ty : TypeId) : B9 (w.alloc (.cells #[.int .i64 i, .int .i64 d, .int .i64 c, .string b, .int .i64 a, .int .i64 t, .int .i64 r, .int .i64 n, .int .i64 s] ty)) w.heap.size i d c b a t r n s :=
  ⟨cell_of_row _ _ 0 _ ty (0, 0) (heap_alloc_new w _), cell_of_row _ _ 1 _ ty (0, 0) (heap_alloc_new w _), cell_of_row _ _ 2 _ ty (0, 0) (heap_alloc_new w _), cell_of_row _ _ 3 _ ty (0, 0) (heap_alloc_new w _), cell_of_row _ _ 4 _ ty (0, 0) (heap_alloc_new w _), cell_of_row _ _ 5 _ ty (0, 0) (heap_alloc_new w _), cell_of_row _ _ 6 _ ty (0, 0) (heap_alloc_new w _), cell_of_row _ _ 7 _ ty (0, 0) (heap_alloc_new w _), cell_of_row _ _ 8 _ ty (0, 0) (heap_alloc_new w _), by simp⟩
theorem B9.below {w w' : World} {k : Nat} {i d c : Int} {b : ByteArray} {a t r n s : Int} (h : B9 w k i d c b a t r n s) (hb : Below w.heap.size w w') : B9 w' k i d c b a t r n s :=
  ⟨(hb.cell (p := ⟨k, 0, none⟩) h.lt).trans h.c0, (hb.cell (p := ⟨k, 1, none⟩) h.lt).trans h.c1, (hb.cell (p := ⟨k, 2, none⟩) h.lt).trans h.c2, (hb.cell (p := ⟨k, 3, none⟩) h.lt).trans h.c3, (hb.cell (p := ⟨k, 4, none⟩) h.lt).trans h.c4, (hb.cell (p := ⟨k, 5, none⟩) h.lt).trans h.c5, (hb.cell (p := ⟨k, 6, none⟩) h.lt).trans h.c6, (hb.cell (p := ⟨k, 7, none⟩) h.lt).trans h.c7, (hb.cell (p := ⟨k, 8, none⟩) h.lt).trans h.c8, Nat.lt_of_lt_of_le h.lt hb.size⟩
end Go.Proofs.YtkndpkingmemoaaDoor.Evt
namespace Go.Proofs.YtkndpkingmemoaaDoor.Evt
open Go.RowKit
set_option linter.unusedVariables false

set_option maxRecDepth 100000 in
theorem msg_any (i d c : Int) (b : ByteArray) (a t r n s : Int) (w : World) :
    Calls Tryd.prog 37 #[.agg #[.int .i64 i, .int .i64 d, .int .i64 c, .string b, .int .i64 a, .int .i64 t, .int .i64 r, .int .i64 n, .int .i64 s]] w fun e w' => e = .returned (.agg #[.int .i64 a, .int .i64 t, .int .i64 n, .int .i64 s]) ∧ Below w.heap.size w w' := by
  go_enter Tryd.func37, Tryd.ntmps37
  go_wp2
  refine bodyPost_ret (v := .agg #[.int .i64 a, .int .i64 t, .int .i64 n, .int .i64 s]) (by simp [results, Tryd.results37, go_sem]) rfl ⟨rfl, ?_⟩
  repeat' first | exact Below.refl _ _ | (refine Below.setCell ?_ (by simp; try omega) _) | (refine Below.alloc ?_ (by simp; try omega) _) | refine Below.drew ?_

theorem right_any (a t n : Int) (w : World) :
    Calls Tryd.prog 67 #[.agg #[.int .i64 a, .int .i64 t, .int .i64 n]] w fun e w' => e = .returned (.bool (tokB a t n)) ∧ Below w.heap.size w w' := by
  go_enter Tryd.func67, Tryd.ntmps67
  go_wp2
  all_goals
    go_ret
    refine ⟨?_, bOne _ _⟩
    unfold tokB
    first
      | exact bool_iff (by unfold TOk; omega)
      | exact bool_no (by unfold TOk; omega)

set_option maxRecDepth 100000 in
set_option maxHeartbeats 2000000 in
theorem implOk_any (i d c : Int) (b : ByteArray) (a t r n s : Int) (w : World) (hb : b.size ≤ maxLen) :
    Calls Tryd.prog 51 #[.agg #[.int .i64 i, .int .i64 d, .int .i64 c, .string b, .int .i64 a, .int .i64 t, .int .i64 r, .int .i64 n, .int .i64 s]] w fun e w' => e = .returned (.bool (eokB i d c b.size a t r n s)) ∧ Below w.heap.size w w' := by
  unfold maxLen at hb
  have HB := Lib.hid (B9.new w i d c b a t r n s 55)
  have hfd : ∀ w : World, (Instr.field 66 (.agg #[.int .i64 a, .int .i64 t, .int .i64 n, .int .i64 s]) 0).run Tryd.prog w = .ok (.agg #[.int .i64 a, .int .i64 t, .int .i64 n]) w := fun _ => by kernel_rfl
  go_enter Tryd.func51, Tryd.ntmps51
  go_wp2_with fail
  · refine (msg_any i d c b a t r n s _).mono ?_
    rintro e w1 ⟨rfl, hb1⟩
    go_wp2_with fail
    refine (right_any a t n _).mono ?_
    rintro e w2 ⟨rfl, hb2⟩
    have HB2 := Lib.hid (bAfter (bAfter (bOne w _) hb1 (by simp)) hb2 (Nat.le_trans (by simp) hb1.size))
    clear hb1 hb2
    obtain ⟨x, hx⟩ : ∃ x, x = tokB a t n := ⟨_, rfl⟩
    rw [← hx]
    have HX := Lib.hid hx
    clear hx
    go_wp2_with fail
    go_ret
    refine ⟨?_, HB2.out⟩
    rw [HX.out]
    exact bool_iff (by unfold TOk EOk; omega)
  all_goals
    go_ret
    refine ⟨?_, bOne _ _⟩
    unfold eokB
    first
      | exact bool_iff (by unfold EOk; omega)
      | exact bool_no (by unfold EOk; omega)

theorem in_any (x lo hi : Int) (w : World) :
    Calls Tryd.prog 50 #[.int .i64 x, .int .i64 lo, .int .i64 hi] w fun e w' => e = .returned (.bool (inB lo hi x)) ∧ w = w' := by
  go_enter Tryd.func50, Tryd.ntmps50
  go_wp2
  all_goals
    go_ret
    refine ⟨?_, rfl⟩
    unfold inB
    first
      | exact bool_iff (by omega)
      | exact bool_no (by omega)
theorem in_yes (x lo hi : Int) (w : World) (h : lo ≤ x ∧ x ≤ hi) :
    Calls Tryd.prog 50 #[.int .i64 x, .int .i64 lo, .int .i64 hi] w fun e w' => e = .returned (.bool true) ∧ w = w' :=
  (in_any x lo hi w).mono fun e w' h1 => ⟨h1.1.trans (by unfold inB; rw [decide_eq_true h]), h1.2⟩
theorem in_no (x lo hi : Int) (w : World) (h : ¬ (lo ≤ x ∧ x ≤ hi)) :
    Calls Tryd.prog 50 #[.int .i64 x, .int .i64 lo, .int .i64 hi] w fun e w' => e = .returned (.bool false) ∧ w = w' :=
  (in_any x lo hi w).mono fun e w' h1 => ⟨h1.1.trans (by unfold inB; rw [decide_eq_false h]), h1.2⟩

set_option maxRecDepth 100000 in
set_option maxHeartbeats 2000000 in
theorem specOk_any (i d c : Int) (b : ByteArray) (a t r n s : Int) (w : World) (hb : b.size ≤ maxLen) :
    Calls Tryd.prog 76 #[.agg #[.int .i64 i, .int .i64 d, .int .i64 c, .string b, .int .i64 a, .int .i64 t, .int .i64 r, .int .i64 n, .int .i64 s]] w fun e w' => e = .returned (.bool (eokB i d c b.size a t r n s)) ∧ Below w.heap.size w w' := by
  unfold maxLen at hb
  by_cases h0 : 1 ≤ i ∧ i ≤ 9999
  rotate_left
  · have HN := Lib.hid (eokB_no (i := i) (d := d) (c := c) (m := b.size) (a := a) (t := t) (r := r) (n := n) (s := s) (fun h => h0 (by unfold EOk at h; omega)))
    have H0 := Lib.hid h0
    clear h0
    go_enter Tryd.func76, Tryd.ntmps76
    go_wp2_with fail
    refine (in_no i 1 9999 _ H0.out).mono ?_
    rintro e w' ⟨rfl, rfl⟩
    go_wp2_with fail
    go_ret
    exact ⟨by rw [HN.out]; rfl, bOne _ _⟩
  by_cases h1 : 1 ≤ d ∧ d ≤ 6
  rotate_left
  · have HN := Lib.hid (eokB_no (i := i) (d := d) (c := c) (m := b.size) (a := a) (t := t) (r := r) (n := n) (s := s) (fun h => h1 (by unfold EOk at h; omega)))
    have H0 := Lib.hid h0
    clear h0
    have H1 := Lib.hid h1
    clear h1
    go_enter Tryd.func76, Tryd.ntmps76
    go_wp2_with fail
    refine (in_yes i 1 9999 _ H0.out).mono ?_
    rintro e w' ⟨rfl, rfl⟩
    go_wp2_with fail
    refine (in_no d 1 6 _ H1.out).mono ?_
    rintro e w' ⟨rfl, rfl⟩
    go_wp2_with fail
    go_ret
    exact ⟨by rw [HN.out]; rfl, bOne _ _⟩
  by_cases h2 : 1 ≤ c ∧ c ≤ 9
  rotate_left
  · have HN := Lib.hid (eokB_no (i := i) (d := d) (c := c) (m := b.size) (a := a) (t := t) (r := r) (n := n) (s := s) (fun h => h2 (by unfold EOk at h; omega)))
    have H0 := Lib.hid h0
    clear h0
    have H1 := Lib.hid h1
    clear h1
    have H2 := Lib.hid h2
    clear h2
    go_enter Tryd.func76, Tryd.ntmps76
    go_wp2_with fail
    refine (in_yes i 1 9999 _ H0.out).mono ?_
    rintro e w' ⟨rfl, rfl⟩
    go_wp2_with fail
    refine (in_yes d 1 6 _ H1.out).mono ?_
    rintro e w' ⟨rfl, rfl⟩
    go_wp2_with fail
    refine (in_no c 1 9 _ H2.out).mono ?_
    rintro e w' ⟨rfl, rfl⟩
    go_wp2_with fail
    go_ret
    exact ⟨by rw [HN.out]; rfl, bOne _ _⟩
  by_cases h3 : b.size ≤ 40
  rotate_left
  · have HN := Lib.hid (eokB_no (i := i) (d := d) (c := c) (m := b.size) (a := a) (t := t) (r := r) (n := n) (s := s) (fun h => h3 (by unfold EOk at h; omega)))
    have H0 := Lib.hid h0
    clear h0
    have H1 := Lib.hid h1
    clear h1
    have H2 := Lib.hid h2
    clear h2
    have h3n : decide (b.size ≤ 40) = false := decide_eq_false h3
    have h3m : decide ((b.size : Int) ≤ 40) = false := decide_eq_false (by omega)
    have H3 := Lib.hid h3
    clear h3
    go_enter Tryd.func76, Tryd.ntmps76
    go_wp2_with fail
    refine (in_yes i 1 9999 _ H0.out).mono ?_
    rintro e w' ⟨rfl, rfl⟩
    go_wp2_with fail
    refine (in_yes d 1 6 _ H1.out).mono ?_
    rintro e w' ⟨rfl, rfl⟩
    go_wp2_with fail
    refine (in_yes c 1 9 _ H2.out).mono ?_
    rintro e w' ⟨rfl, rfl⟩
    go_wp2_with fail
    go_ret
    exact ⟨by rw [HN.out]; rfl, bOne _ _⟩
  by_cases h4 : 0 ≤ a ∧ a ≤ 1000000000
  rotate_left
  · have HN := Lib.hid (eokB_no (i := i) (d := d) (c := c) (m := b.size) (a := a) (t := t) (r := r) (n := n) (s := s) (fun h => h4 (by unfold EOk at h; omega)))
    have H0 := Lib.hid h0
    clear h0
    have H1 := Lib.hid h1
    clear h1
    have H2 := Lib.hid h2
    clear h2
    have h3m : decide ((b.size : Int) ≤ 40) = true := decide_eq_true (by omega)
    have H4 := Lib.hid h4
    clear h4
    go_enter Tryd.func76, Tryd.ntmps76
    go_wp2_with fail
    refine (in_yes i 1 9999 _ H0.out).mono ?_
    rintro e w' ⟨rfl, rfl⟩
    go_wp2_with fail
    refine (in_yes d 1 6 _ H1.out).mono ?_
    rintro e w' ⟨rfl, rfl⟩
    go_wp2_with fail
    refine (in_yes c 1 9 _ H2.out).mono ?_
    rintro e w' ⟨rfl, rfl⟩
    go_wp2_with fail
    refine (in_no a 0 1000000000 _ H4.out).mono ?_
    rintro e w' ⟨rfl, rfl⟩
    go_wp2_with fail
    go_ret
    exact ⟨by rw [HN.out]; rfl, bOne _ _⟩
  by_cases h5 : 1 ≤ t ∧ t ≤ 1000000
  rotate_left
  · have HN := Lib.hid (eokB_no (i := i) (d := d) (c := c) (m := b.size) (a := a) (t := t) (r := r) (n := n) (s := s) (fun h => h5 (by unfold EOk at h; omega)))
    have H0 := Lib.hid h0
    clear h0
    have H1 := Lib.hid h1
    clear h1
    have H2 := Lib.hid h2
    clear h2
    have h3m : decide ((b.size : Int) ≤ 40) = true := decide_eq_true (by omega)
    have H4 := Lib.hid h4
    clear h4
    have H5 := Lib.hid h5
    clear h5
    go_enter Tryd.func76, Tryd.ntmps76
    go_wp2_with fail
    refine (in_yes i 1 9999 _ H0.out).mono ?_
    rintro e w' ⟨rfl, rfl⟩
    go_wp2_with fail
    refine (in_yes d 1 6 _ H1.out).mono ?_
    rintro e w' ⟨rfl, rfl⟩
    go_wp2_with fail
    refine (in_yes c 1 9 _ H2.out).mono ?_
    rintro e w' ⟨rfl, rfl⟩
    go_wp2_with fail
    refine (in_yes a 0 1000000000 _ H4.out).mono ?_
    rintro e w' ⟨rfl, rfl⟩
    go_wp2_with fail
    refine (in_no t 1 1000000 _ H5.out).mono ?_
    rintro e w' ⟨rfl, rfl⟩
    go_wp2_with fail
    go_ret
    exact ⟨by rw [HN.out]; rfl, bOne _ _⟩
  by_cases h6 : 0 ≤ r ∧ r ≤ 100000
  rotate_left
  · have HN := Lib.hid (eokB_no (i := i) (d := d) (c := c) (m := b.size) (a := a) (t := t) (r := r) (n := n) (s := s) (fun h => h6 (by unfold EOk at h; omega)))
    have H0 := Lib.hid h0
    clear h0
    have H1 := Lib.hid h1
    clear h1
    have H2 := Lib.hid h2
    clear h2
    have h3m : decide ((b.size : Int) ≤ 40) = true := decide_eq_true (by omega)
    have H4 := Lib.hid h4
    clear h4
    have H5 := Lib.hid h5
    clear h5
    have H6 := Lib.hid h6
    clear h6
    go_enter Tryd.func76, Tryd.ntmps76
    go_wp2_with fail
    refine (in_yes i 1 9999 _ H0.out).mono ?_
    rintro e w' ⟨rfl, rfl⟩
    go_wp2_with fail
    refine (in_yes d 1 6 _ H1.out).mono ?_
    rintro e w' ⟨rfl, rfl⟩
    go_wp2_with fail
    refine (in_yes c 1 9 _ H2.out).mono ?_
    rintro e w' ⟨rfl, rfl⟩
    go_wp2_with fail
    refine (in_yes a 0 1000000000 _ H4.out).mono ?_
    rintro e w' ⟨rfl, rfl⟩
    go_wp2_with fail
    refine (in_yes t 1 1000000 _ H5.out).mono ?_
    rintro e w' ⟨rfl, rfl⟩
    go_wp2_with fail
    refine (in_no r 0 100000 _ H6.out).mono ?_
    rintro e w' ⟨rfl, rfl⟩
    go_wp2_with fail
    go_ret
    exact ⟨by rw [HN.out]; rfl, bOne _ _⟩
  by_cases h7 : 0 ≤ n ∧ n ≤ 2000000000
  rotate_left
  · have HN := Lib.hid (eokB_no (i := i) (d := d) (c := c) (m := b.size) (a := a) (t := t) (r := r) (n := n) (s := s) (fun h => h7 (by unfold EOk at h; omega)))
    have H0 := Lib.hid h0
    clear h0
    have H1 := Lib.hid h1
    clear h1
    have H2 := Lib.hid h2
    clear h2
    have h3m : decide ((b.size : Int) ≤ 40) = true := decide_eq_true (by omega)
    have H4 := Lib.hid h4
    clear h4
    have H5 := Lib.hid h5
    clear h5
    have H6 := Lib.hid h6
    clear h6
    have H7 := Lib.hid h7
    clear h7
    go_enter Tryd.func76, Tryd.ntmps76
    go_wp2_with fail
    refine (in_yes i 1 9999 _ H0.out).mono ?_
    rintro e w' ⟨rfl, rfl⟩
    go_wp2_with fail
    refine (in_yes d 1 6 _ H1.out).mono ?_
    rintro e w' ⟨rfl, rfl⟩
    go_wp2_with fail
    refine (in_yes c 1 9 _ H2.out).mono ?_
    rintro e w' ⟨rfl, rfl⟩
    go_wp2_with fail
    refine (in_yes a 0 1000000000 _ H4.out).mono ?_
    rintro e w' ⟨rfl, rfl⟩
    go_wp2_with fail
    refine (in_yes t 1 1000000 _ H5.out).mono ?_
    rintro e w' ⟨rfl, rfl⟩
    go_wp2_with fail
    refine (in_yes r 0 100000 _ H6.out).mono ?_
    rintro e w' ⟨rfl, rfl⟩
    go_wp2_with fail
    refine (in_no n 0 2000000000 _ H7.out).mono ?_
    rintro e w' ⟨rfl, rfl⟩
    go_wp2_with fail
    go_ret
    exact ⟨by rw [HN.out]; rfl, bOne _ _⟩
  by_cases h8 : 0 ≤ s ∧ s ≤ 3
  rotate_left
  · have HN := Lib.hid (eokB_no (i := i) (d := d) (c := c) (m := b.size) (a := a) (t := t) (r := r) (n := n) (s := s) (fun h => h8 (by unfold EOk at h; omega)))
    have H0 := Lib.hid h0
    clear h0
    have H1 := Lib.hid h1
    clear h1
    have H2 := Lib.hid h2
    clear h2
    have h3m : decide ((b.size : Int) ≤ 40) = true := decide_eq_true (by omega)
    have H4 := Lib.hid h4
    clear h4
    have H5 := Lib.hid h5
    clear h5
    have H6 := Lib.hid h6
    clear h6
    have H7 := Lib.hid h7
    clear h7
    have H8 := Lib.hid h8
    clear h8
    go_enter Tryd.func76, Tryd.ntmps76
    go_wp2_with fail
    refine (in_yes i 1 9999 _ H0.out).mono ?_
    rintro e w' ⟨rfl, rfl⟩
    go_wp2_with fail
    refine (in_yes d 1 6 _ H1.out).mono ?_
    rintro e w' ⟨rfl, rfl⟩
    go_wp2_with fail
    refine (in_yes c 1 9 _ H2.out).mono ?_
    rintro e w' ⟨rfl, rfl⟩
    go_wp2_with fail
    refine (in_yes a 0 1000000000 _ H4.out).mono ?_
    rintro e w' ⟨rfl, rfl⟩
    go_wp2_with fail
    refine (in_yes t 1 1000000 _ H5.out).mono ?_
    rintro e w' ⟨rfl, rfl⟩
    go_wp2_with fail
    refine (in_yes r 0 100000 _ H6.out).mono ?_
    rintro e w' ⟨rfl, rfl⟩
    go_wp2_with fail
    refine (in_yes n 0 2000000000 _ H7.out).mono ?_
    rintro e w' ⟨rfl, rfl⟩
    go_wp2_with fail
    refine (in_no s 0 3 _ H8.out).mono ?_
    rintro e w' ⟨rfl, rfl⟩
    go_wp2_with fail
    go_ret
    exact ⟨by rw [HN.out]; rfl, bOne _ _⟩
  have HN := Lib.hid (eokB_yes (i := i) (d := d) (c := c) (m := b.size) (a := a) (t := t) (r := r) (n := n) (s := s) (by unfold EOk; omega))
  have H0 := Lib.hid h0
  clear h0
  have H1 := Lib.hid h1
  clear h1
  have H2 := Lib.hid h2
  clear h2
  have h3m : decide ((b.size : Int) ≤ 40) = true := decide_eq_true (by omega)
  have H4 := Lib.hid h4
  clear h4
  have H5 := Lib.hid h5
  clear h5
  have H6 := Lib.hid h6
  clear h6
  have H7 := Lib.hid h7
  clear h7
  have H8 := Lib.hid h8
  clear h8
  go_enter Tryd.func76, Tryd.ntmps76
  go_wp2_with fail
  refine (in_yes i 1 9999 _ H0.out).mono ?_
  rintro e w' ⟨rfl, rfl⟩
  go_wp2_with fail
  refine (in_yes d 1 6 _ H1.out).mono ?_
  rintro e w' ⟨rfl, rfl⟩
  go_wp2_with fail
  refine (in_yes c 1 9 _ H2.out).mono ?_
  rintro e w' ⟨rfl, rfl⟩
  go_wp2_with fail
  refine (in_yes a 0 1000000000 _ H4.out).mono ?_
  rintro e w' ⟨rfl, rfl⟩
  go_wp2_with fail
  refine (in_yes t 1 1000000 _ H5.out).mono ?_
  rintro e w' ⟨rfl, rfl⟩
  go_wp2_with fail
  refine (in_yes r 0 100000 _ H6.out).mono ?_
  rintro e w' ⟨rfl, rfl⟩
  go_wp2_with fail
  refine (in_yes n 0 2000000000 _ H7.out).mono ?_
  rintro e w' ⟨rfl, rfl⟩
  go_wp2_with fail
  refine (in_yes s 0 3 _ H8.out).mono ?_
  rintro e w' ⟨rfl, rfl⟩
  go_wp2_with fail
  go_ret
  exact ⟨by rw [HN.out]; rfl, bOne _ _⟩

set_option maxRecDepth 100000 in
theorem back_any (i d c : Int) (b : ByteArray) (a t r n s : Int) (w : World) :
    Calls Tryd.prog 70 #[.agg #[.int .i64 i, .int .i64 d, .int .i64 c, .string b, .int .i64 a, .int .i64 t, .int .i64 r, .int .i64 n, .int .i64 s]] w fun e w' => e = .returned (.agg #[.int .i64 i, .int .i64 d, .int .i64 c, .string b, .int .i64 a, .int .i64 t, .int .i64 r, .int .i64 n, .int .i64 (bk s)]) ∧ Below w.heap.size w w' := by
  by_cases h : s = 1
  · subst h
    have hbk : bk 1 = 0 := rfl
    rw [hbk]
    go_enter Tryd.func70, Tryd.ntmps70
    go_wp2
    refine bodyPost_ret (v := .agg #[.int .i64 i, .int .i64 d, .int .i64 c, .string b, .int .i64 a, .int .i64 t, .int .i64 r, .int .i64 n, .int .i64 (0)]) (by simp [results, Tryd.results70, go_sem]) rfl ⟨rfl, ?_⟩
    repeat' first | exact Below.refl _ _ | (refine Below.setCell ?_ (by simp; try omega) _) | (refine Below.alloc ?_ (by simp; try omega) _) | refine Below.drew ?_
  · have hbk : bk s = s := if_neg h
    have hne : (s == 1) = false := beq_eq_false_iff_ne.2 h
    rw [hbk]
    go_enter Tryd.func70, Tryd.ntmps70
    go_wp2
    refine bodyPost_ret (v := .agg #[.int .i64 i, .int .i64 d, .int .i64 c, .string b, .int .i64 a, .int .i64 t, .int .i64 r, .int .i64 n, .int .i64 (s)]) (by simp [results, Tryd.results70, go_sem]) rfl ⟨rfl, ?_⟩
    repeat' first | exact Below.refl _ _ | (refine Below.setCell ?_ (by simp; try omega) _) | (refine Below.alloc ?_ (by simp; try omega) _) | refine Below.drew ?_
end Go.Proofs.YtkndpkingmemoaaDoor.Evt
namespace Go.Proofs.YtkndpkingmemoaaDoor.Evt
open Go.RowKit
set_option linter.unusedVariables false

end Go.Proofs.YtkndpkingmemoaaDoor.Evt
namespace Go.Proofs.YtkndpkingmemoaaDoor.Gat
open Go.RowKit
open Lnk (bOne bAfter)
set_option linter.unusedVariables false

end Go.Proofs.YtkndpkingmemoaaDoor.Gat
