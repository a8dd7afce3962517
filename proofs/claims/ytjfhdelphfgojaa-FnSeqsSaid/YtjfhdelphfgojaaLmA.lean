/-
  What a draw of a link holds: its cursor, the box of its answer, the box of the link under way, and the link's list, all of its own.
-/
import Derived.Test.YtjfhdelphfgojaaLkN
import Derived.Test.YtjfhdelphfgojaaDrawN
namespace Go.Proofs.Ytjfhdelphfgojaa.Lnk
open Go.RowKit Go.Proofs.Ytjfhdelphfgojaa.Kit Go.Proofs.Ytjfhdelphfgojaa.Draw
set_option linter.unusedVariables false

theorem B4.set0 {w : World} {b : Nat} {up : Bool} {ep sq : Int} {v : Value} (h : B4 w b up ep sq v) (z : Bool) : B4 (w.setCell ⟨b, 0, none⟩ (.bool z)) b z ep sq v :=
  ⟨World.cell?_setCell_same' _ _ _ (by rw [h.c0]; rfl), by rw [World.cell?_setCell_other _ _ _ _ (by simp)]; exact h.c1, by rw [World.cell?_setCell_other _ _ _ _ (by simp)]; exact h.c2, by rw [World.cell?_setCell_other _ _ _ _ (by simp)]; exact h.c3, by simpa using h.lt⟩
theorem B4.set1 {w : World} {b : Nat} {up : Bool} {ep sq : Int} {v : Value} (h : B4 w b up ep sq v) (z : Int) : B4 (w.setCell ⟨b, 1, none⟩ (.int .i64 z)) b up z sq v :=
  ⟨by rw [World.cell?_setCell_other _ _ _ _ (by simp)]; exact h.c0, World.cell?_setCell_same' _ _ _ (by rw [h.c1]; rfl), by rw [World.cell?_setCell_other _ _ _ _ (by simp)]; exact h.c2, by rw [World.cell?_setCell_other _ _ _ _ (by simp)]; exact h.c3, by simpa using h.lt⟩
theorem B4.set2 {w : World} {b : Nat} {up : Bool} {ep sq : Int} {v : Value} (h : B4 w b up ep sq v) (z : Int) : B4 (w.setCell ⟨b, 2, none⟩ (.int .i64 z)) b up ep z v :=
  ⟨by rw [World.cell?_setCell_other _ _ _ _ (by simp)]; exact h.c0, by rw [World.cell?_setCell_other _ _ _ _ (by simp)]; exact h.c1, World.cell?_setCell_same' _ _ _ (by rw [h.c2]; rfl), by rw [World.cell?_setCell_other _ _ _ _ (by simp)]; exact h.c3, by simpa using h.lt⟩
theorem YOwn.setFar {B : Nat} {w : World} {E : TypeId} {v : Value} {l : List Y} (h : YOwn B w E v l) (p : Addr) (z : Value) (hne : ∀ j, v.ownBlock = some j → j ≠ p.block) : YOwn B (w.setCell p z) E v l := by
  refine h.grown (r := some p.block) ⟨rfl, rfl, rfl, by simp, fun k _ hk => heap_setCell_other w p k z (fun e => hk (by simp [e]))⟩ ?_
  cases hv : v.ownBlock with
  | none => exact .inl rfl
  | some j => exact .inr (fun e => by injection e with e; exact hne j hv e)

structure Ms (B : Nat) (w wr : World) (cb : Nat) (a0 : Option Addr) (len0 cap0 b2 b3 : Nat) (up : Bool) (ep sq : Int) (a : Option Addr) (n cap : Nat) (l : List Y) : Prop where
  dr : Dr B wr cb 74 a0 len0 cap0
  g : w.grownBy wr (some cb)
  o : B4 wr b2 false 0 0 (.slice none 0 0)
  fo : Fr wr b2
  x : B4 wr b3 up ep sq (.slice a n cap)
  f : Fr wr b3
  own : YOwn w.heap.size wr 40 (.slice a n cap) l
  cbl : cb < w.heap.size
  h2 : w.heap.size ≤ b2
  h3 : w.heap.size ≤ b3
  ne : b2 ≠ b3
  sep : ∀ j, (Value.slice a n cap).ownBlock = some j → j ≠ b2 ∧ j ≠ b3
section
variable {B cb len0 cap0 b2 b3 n cap n' cap' : Nat} {w wr w' w3 : World} {a0 a a' : Option Addr} {up up' : Bool} {ep sq ep' sq' : Int} {l l' : List Y}
theorem went_of_below (hd : Dr B wr cb 74 a0 len0 cap0) (hb : Below wr.heap.size wr w') : Went B wr w' cb 74 a0 len0 cap0 :=
  ⟨hd.keep (hb.mono (Nat.le_trans hd.le (Nat.le_of_lt hd.cur.lt))) (hb.block cb hd.cur.lt), grown_of_below hb _⟩
theorem Ms.ge (h : Ms B w wr cb a0 len0 cap0 b2 b3 up ep sq a n cap l) : ∀ j, (Value.slice a n cap).ownBlock = some j → w.heap.size ≤ j := fun j hj => (World.ownsRow.lt h.own j hj).1
theorem Ms.went (h : Ms B w wr cb a0 len0 cap0 b2 b3 up ep sq a n cap l) (hw : Went B wr w' cb 74 a0 len0 cap0) : Ms B w w' cb a0 len0 cap0 b2 b3 up ep sq a n cap l where
  dr := hw.dr
  g := grown_trans h.g hw.grown
  o := h.o.grown hw.grown (fun e => by injection e with e; have := h.cbl; have := h.h2; omega)
  fo := h.fo.grown h.o.lt hw.grown (fun e => by injection e with e; have := h.cbl; have := h.h2; omega)
  x := h.x.grown hw.grown (fun e => by injection e with e; have := h.cbl; have := h.h3; omega)
  f := h.f.grown h.x.lt hw.grown (fun e => by injection e with e; have := h.cbl; have := h.h3; omega)
  own := h.own.grown hw.grown (by
    cases hv : (Value.slice a n cap).ownBlock with
    | none => exact .inl rfl
    | some j => exact .inr (fun e => by injection e with e; have := h.ge j hv; have := h.cbl; omega))
  cbl := h.cbl
  h2 := h.h2
  h3 := h.h3
  ne := h.ne
  sep := h.sep
theorem Ms.below (h : Ms B w wr cb a0 len0 cap0 b2 b3 up ep sq a n cap l) (hb : Below wr.heap.size wr w') : Ms B w w' cb a0 len0 cap0 b2 b3 up ep sq a n cap l := h.went (went_of_below h.dr hb)
/-- a store into one of the draw's own boxes leaves the cursor, and all that was there -/
theorem dr_set (hd : Dr B wr cb 74 a0 len0 cap0) (p : Addr) (z : Value) (hp : cb < p.block) : Dr B (wr.setCell p z) cb 74 a0 len0 cap0 :=
  hd.keep ((Below.refl _ _).setCell (Nat.le_trans hd.le (Nat.le_of_lt hp)) _) (heap_setCell_other wr p cb z (Nat.ne_of_lt hp))
theorem g_set (h : w.grownBy wr (some cb)) (p : Addr) (z : Value) (hp : w.heap.size ≤ p.block) : w.grownBy (wr.setCell p z) (some cb) :=
  ⟨h.os, h.tape, h.output, by simpa using h.size, fun j hj hne => (heap_setCell_other wr p j z (by omega)).trans (h.block j hj hne)⟩
theorem Ms.set0 (h : Ms B w wr cb a0 len0 cap0 b2 b3 up ep sq a n cap l) (z : Bool) : Ms B w (wr.setCell ⟨b3, 0, none⟩ (.bool z)) cb a0 len0 cap0 b2 b3 z ep sq a n cap l where
  dr := dr_set h.dr _ _ (by have := h.cbl; have := h.h3; show cb < b3; omega)
  g := g_set h.g _ _ h.h3
  o := h.o.set _ _ (Ne.symm h.ne)
  fo := h.fo.set _ _
  x := h.x.set0 _
  f := h.f.set _ _
  own := h.own.setFar _ _ (fun j hj => (h.sep j hj).2)
  cbl := h.cbl
  h2 := h.h2
  h3 := h.h3
  ne := h.ne
  sep := h.sep
theorem Ms.set1 (h : Ms B w wr cb a0 len0 cap0 b2 b3 up ep sq a n cap l) (z : Int) : Ms B w (wr.setCell ⟨b3, 1, none⟩ (.int .i64 z)) cb a0 len0 cap0 b2 b3 up z sq a n cap l where
  dr := dr_set h.dr _ _ (by have := h.cbl; have := h.h3; show cb < b3; omega)
  g := g_set h.g _ _ h.h3
  o := h.o.set _ _ (Ne.symm h.ne)
  fo := h.fo.set _ _
  x := h.x.set1 _
  f := h.f.set _ _
  own := h.own.setFar _ _ (fun j hj => (h.sep j hj).2)
  cbl := h.cbl
  h2 := h.h2
  h3 := h.h3
  ne := h.ne
  sep := h.sep
theorem Ms.set2 (h : Ms B w wr cb a0 len0 cap0 b2 b3 up ep sq a n cap l) (z : Int) : Ms B w (wr.setCell ⟨b3, 2, none⟩ (.int .i64 z)) cb a0 len0 cap0 b2 b3 up ep z a n cap l where
  dr := dr_set h.dr _ _ (by have := h.cbl; have := h.h3; show cb < b3; omega)
  g := g_set h.g _ _ h.h3
  o := h.o.set _ _ (Ne.symm h.ne)
  fo := h.fo.set _ _
  x := h.x.set2 _
  f := h.f.set _ _
  own := h.own.setFar _ _ (fun j hj => (h.sep j hj).2)
  cbl := h.cbl
  h2 := h.h2
  h3 := h.h3
  ne := h.ne
  sep := h.sep
/-- a new list is stored -/
theorem Ms.setList (h : Ms B w wr cb a0 len0 cap0 b2 b3 up ep sq a n cap l) (ho : YOwn w.heap.size wr 40 (.slice a' n' cap') l') (hs : ∀ j, (Value.slice a' n' cap').ownBlock = some j → j ≠ b2 ∧ j ≠ b3) :
    Ms B w (wr.setCell ⟨b3, 3, none⟩ (.slice a' n' cap')) cb a0 len0 cap0 b2 b3 up ep sq a' n' cap' l' where
  dr := dr_set h.dr _ _ (by have := h.cbl; have := h.h3; show cb < b3; omega)
  g := g_set h.g _ _ h.h3
  o := h.o.set _ _ (Ne.symm h.ne)
  fo := h.fo.set _ _
  x := h.x.set3 _
  f := h.f.set _ _
  own := ho.setFar _ _ (fun j hj => (hs j hj).2)
  cbl := h.cbl
  h2 := h.h2
  h3 := h.h3
  ne := h.ne
  sep := hs
/-- a whole link is stored, whose list was made behind the boxes -/
theorem Ms.put (h : Ms B w wr cb a0 len0 cap0 b2 b3 up ep sq a n cap l) (hb : Below wr.heap.size wr w3) (ho : YOwn wr.heap.size w3 40 (.slice a' n' cap') l') (up' : Bool) (ep' sq' : Int) :
    Ms B w ((((w3.setCell ⟨b3, 0, none⟩ (.bool up')).setCell ⟨b3, 1, none⟩ (.int .i64 ep')).setCell ⟨b3, 2, none⟩ (.int .i64 sq')).setCell ⟨b3, 3, none⟩ (.slice a' n' cap')) cb a0 len0 cap0 b2 b3 up' ep' sq' a' n' cap' l' := by
  have h2 := h.o.lt
  have h3 := h.x.lt
  have hn : ∀ j, (Value.slice a' n' cap').ownBlock = some j → j ≠ b2 ∧ j ≠ b3 := fun j hj => by have := (World.ownsRow.lt ho j hj).1; omega
  have h1 := (((h.below hb).set0 up').set1 ep').set2 sq'
  exact h1.setList ((((ho.base h.g.size).setFar _ _ (fun j hj => (hn j hj).2)).setFar _ _ (fun j hj => (hn j hj).2)).setFar _ _ (fun j hj => (hn j hj).2)) hn
theorem Ms.cells (h : Ms B w wr cb a0 len0 cap0 b2 b3 up ep sq a n cap l) : (wr.cell? ⟨b2, 0, none⟩ = some (.bool false) ∧ wr.cell? ⟨b2, 1, none⟩ = some (.int .i64 0) ∧ wr.cell? ⟨b2, 2, none⟩ = some (.int .i64 0) ∧ wr.cell? ⟨b2, 3, none⟩ = some (.slice none 0 0)) ∧
    (wr.frozen? ⟨b2, 0, none⟩ = false ∧ wr.frozen? ⟨b2, 1, none⟩ = false ∧ wr.frozen? ⟨b2, 2, none⟩ = false ∧ wr.frozen? ⟨b2, 3, none⟩ = false) ∧
    (wr.cell? ⟨b3, 0, none⟩ = some (.bool up) ∧ wr.cell? ⟨b3, 1, none⟩ = some (.int .i64 ep) ∧ wr.cell? ⟨b3, 2, none⟩ = some (.int .i64 sq) ∧ wr.cell? ⟨b3, 3, none⟩ = some (.slice a n cap)) ∧
    (wr.frozen? ⟨b3, 0, none⟩ = false ∧ wr.frozen? ⟨b3, 1, none⟩ = false ∧ wr.frozen? ⟨b3, 2, none⟩ = false ∧ wr.frozen? ⟨b3, 3, none⟩ = false) ∧ b2 < wr.heap.size ∧ b3 < wr.heap.size :=
  ⟨⟨h.o.c0, h.o.c1, h.o.c2, h.o.c3⟩, ⟨h.fo 0, h.fo 1, h.fo 2, h.fo 3⟩, ⟨h.x.c0, h.x.c1, h.x.c2, h.x.c3⟩, ⟨h.f 0, h.f 1, h.f 2, h.f 3⟩, h.o.lt, h.x.lt⟩
theorem Ms.is (h : Ms B w wr cb a0 len0 cap0 b2 b3 up ep sq a n cap l) : YIs wr.heap.size wr a n l := h.own.isN
/-- behind an append to the list, ahead of the store -/
theorem Ms.app_at {v' : Value} {w2 : World} (h : Ms B w wr cb a0 len0 cap0 b2 b3 up ep sq a n cap l) (hb : Below wr.heap.size wr w') (ha : AppY w.heap.size w' (.slice a n cap) l' v' w2) :
    B4 w2 b3 up ep sq (.slice a n cap) ∧ Fr w2 b3 ∧ b3 < w2.heap.size ∧ w2.heap.size ≥ w'.heap.size := by
  have h1 := h.below hb
  have hn : (Value.slice a n cap).ownBlock ≠ some b3 := fun e => (h.sep b3 e).2 rfl
  exact ⟨h1.x.grown ha.2.1 hn, h1.f.grown h1.x.lt ha.2.1 hn, Nat.lt_of_lt_of_le h1.x.lt ha.2.1.size, ha.2.1.size⟩
theorem Ms.app {w2 : World} (h : Ms B w wr cb a0 len0 cap0 b2 b3 up ep sq a n cap l) (hb : Below wr.heap.size wr w') (ha : AppY w.heap.size w' (.slice a n cap) l' (.slice a' n' cap') w2) :
    Ms B w (w2.setCell ⟨b3, 3, none⟩ (.slice a' n' cap')) cb a0 len0 cap0 b2 b3 up ep sq a' n' cap' l' := by
  have h1 := h.below hb
  have hg := ha.2.1
  have hn2 : (Value.slice a n cap).ownBlock ≠ some b2 := fun e => (h.sep b2 e).1 rfl
  have hn3 : (Value.slice a n cap).ownBlock ≠ some b3 := fun e => (h.sep b3 e).2 rfl
  have hcb : (Value.slice a n cap).ownBlock ≠ some cb := fun e => by have := h.ge cb e; have := h.cbl; omega
  have hs : ∀ j, (Value.slice a' n' cap').ownBlock = some j → j ≠ b2 ∧ j ≠ b3 := fun j hj => by
    rcases ha.2.2 with e | e
    · exact h.sep j (by rw [← e]; exact hj)
    · rw [e] at hj
      injection hj with hj
      have := h1.o.lt
      have := h1.x.lt
      omega
  have hBw : B ≤ w'.heap.size := Nat.le_trans h1.dr.le (Nat.le_of_lt h1.dr.cur.lt)
  have hlow : Below B w' w2 := (Below.refl B w').grown hg hBw (fun j hj => by have := h.ge j hj; have := h.dr.le; have := h.cbl; omega)
  exact {
    dr := dr_set (h1.dr.keep hlow (hg.block cb h1.dr.cur.lt (Ne.symm hcb))) _ _ (by have := h.cbl; have := h.h3; show cb < b3; omega)
    g := g_set ⟨hg.os.trans h1.g.os, hg.tape.trans h1.g.tape, hg.output.trans h1.g.output, Nat.le_trans h1.g.size hg.size, fun j hj hne => (hg.block j (Nat.lt_of_lt_of_le hj h1.g.size) (fun e => by have := h.ge j e.symm; omega)).trans (h1.g.block j hj hne)⟩ _ _ h.h3
    o := (h1.o.grown hg hn2).set _ _ (Ne.symm h.ne)
    fo := (h1.fo.grown h1.o.lt hg hn2).set _ _
    x := (h1.x.grown hg hn3).set3 _
    f := (h1.f.grown h1.x.lt hg hn3).set _ _
    own := ha.1.setFar _ _ (fun j hj => (hs j hj).2)
    cbl := h.cbl
    h2 := h.h2
    h3 := h.h3
    ne := h.ne
    sep := hs }
/-- the boxes as they are made -/
theorem Ms.new (hd : Dr B wr cb 74 a0 len0 cap0) (hg : w.grownBy wr (some cb)) (hcb : cb < w.heap.size) (hz : B4 wr b2 false 0 0 (.slice none 0 0)) (hzf : Fr wr b2) (h2 : w.heap.size ≤ b2) (up : Bool) (ep sq : Int)
    (ho : YOwn w.heap.size wr 40 (.slice a n cap) l) (hs : ∀ j, (Value.slice a n cap).ownBlock = some j → j ≠ b2) :
    Ms B w (wr.alloc (.cells #[.bool up, .int .i64 ep, .int .i64 sq, .slice a n cap] 26)) cb a0 len0 cap0 b2 wr.heap.size up ep sq a n cap l where
  dr := (went_of_below hd (bOne _ _)).dr
  g := grown_trans hg (grown_of_below (bOne _ _) _)
  o := hz.below (bOne _ _)
  fo := hzf.low (bOne _ _) hz.lt
  x := B4.new wr _ _ _ _ _
  f := Fr.new wr _ _
  own := ho.below (bOne _ _)
  cbl := hcb
  h2 := h2
  h3 := hg.size
  ne := by have := hz.lt; omega
  sep := fun j hj => ⟨hs j hj, by have := (World.ownsRow.lt ho j hj).2; omega⟩
end
/-- what a draw of a link hands back -/
def LnD (N B : Nat) (w w' : World) (cb : Nat) (a0 : Option Addr) (len0 cap0 : Nat) (e : Ending) : Prop :=
  (∃ up ep sq a n cap l, e = .returned (.agg #[.bool up, .int .i64 ep, .int .i64 sq, .slice a n cap]) ∧ YOwn w.heap.size w' 40 (.slice a n cap) l ∧ n ≤ N ∧ n = l.length ∧ -1 ≤ ep ∧ ep ≤ 60001) ∧ Went B w w' cb 74 a0 len0 cap0
theorem Ms.done {B cb len0 cap0 b2 b3 n cap : Nat} {w wr : World} {a0 a : Option Addr} {up : Bool} {ep sq : Int} {l : List Y} (h : Ms B w wr cb a0 len0 cap0 b2 b3 up ep sq a n cap l) (x0 x1 x2 x3 : Value) :
    YOwn w.heap.size ((((wr.setCell ⟨b2, 0, none⟩ x0).setCell ⟨b2, 1, none⟩ x1).setCell ⟨b2, 2, none⟩ x2).setCell ⟨b2, 3, none⟩ x3) 40 (.slice a n cap) l ∧ Went B w ((((wr.setCell ⟨b2, 0, none⟩ x0).setCell ⟨b2, 1, none⟩ x1).setCell ⟨b2, 2, none⟩ x2).setCell ⟨b2, 3, none⟩ x3) cb 74 a0 len0 cap0 := by
  have hp : cb < b2 := by have := h.cbl; have := h.h2; omega
  have hs := fun j hj => (h.sep j hj).1
  exact ⟨(((h.own.setFar _ _ hs).setFar _ _ hs).setFar _ _ hs).setFar _ _ hs, ⟨dr_set (dr_set (dr_set (dr_set h.dr _ _ hp) _ _ hp) _ _ hp) _ _ hp, g_set (g_set (g_set (g_set h.g _ _ h.h2) _ _ h.h2) _ _ h.h2) _ _ h.h2⟩⟩
end Go.Proofs.Ytjfhdelphfgojaa.Lnk
