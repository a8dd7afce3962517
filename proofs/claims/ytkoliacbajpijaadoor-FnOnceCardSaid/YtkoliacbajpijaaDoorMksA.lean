/-
  What a draw of a wheel holds: its cursor, the box of its answer, the box of the wheel under way, and the wheel's list, all of its own.
-/
import Derived.Test.YtkoliacbajpijaaDoorExB
import Derived.Test.YtkoliacbajpijaaDoorSpsW
import Derived.Test.YtkoliacbajpijaaDoorDrawN
namespace Go.Proofs.YtkoliacbajpijaaDoor.Whl
open Go.RowKit Go.Maps Go.Proofs.YtkoliacbajpijaaDoor.Kit Go.Proofs.YtkoliacbajpijaaDoor.Draw
set_option linter.unusedVariables false

theorem Bf.grown {w w1 : World} {k : Nat} {r : Option Nat} (h : Bf w k) (hlt : k < w.heap.size) (hg : w.grownBy w1 r) (hne : r ≠ some k) : Bf w1 k :=
  ⟨(hg.frozen_far ⟨k, 0, none⟩ hlt (Ne.symm hne)).trans h.f0, (hg.frozen_far ⟨k, 1, none⟩ hlt (Ne.symm hne)).trans h.f1⟩
theorem Bf.set {w : World} {k : Nat} (h : Bf w k) (p : Addr) (v : Value) : Bf (w.setCell p v) k := ⟨by rw [World.frozen?_setCell]; exact h.f0, by rw [World.frozen?_setCell]; exact h.f1⟩
theorem Bx.set {w : World} {k : Nat} {u v : Value} (h : Bx w k u v) (p : Addr) (z : Value) (hne : p.block ≠ k) : Bx (w.setCell p z) k u v :=
  ⟨by rw [World.cell?_setCell_far _ _ _ _ hne]; exact h.c0, by rw [World.cell?_setCell_far _ _ _ _ hne]; exact h.c1, by simpa using h.lt⟩
theorem Bx.set0 {w : World} {k : Nat} {u v : Value} (h : Bx w k u v) (z : Value) : Bx (w.setCell ⟨k, 0, none⟩ z) k z v :=
  ⟨World.cell?_setCell_same' _ _ _ (by rw [h.c0]; rfl), by rw [World.cell?_setCell_other _ _ _ _ (by simp)]; exact h.c1, by simpa using h.lt⟩
theorem Bx.set1 {w : World} {k : Nat} {u v : Value} (h : Bx w k u v) (z : Value) : Bx (w.setCell ⟨k, 1, none⟩ z) k u z :=
  ⟨by rw [World.cell?_setCell_other _ _ _ _ (by simp)]; exact h.c0, World.cell?_setCell_same' _ _ _ (by rw [h.c1]; rfl), by simpa using h.lt⟩
theorem TOwn.setFar {B : Nat} {w : World} {E : TypeId} {v : Value} {l : List T} (h : TOwn B w E v l) (p : Addr) (z : Value) (hne : ∀ j, v.ownBlock = some j → j ≠ p.block) : TOwn B (w.setCell p z) E v l := by
  refine h.grown (r := some p.block) ⟨rfl, rfl, rfl, by simp, fun k _ hk => heap_setCell_other w p k z (fun e => hk (by simp [e]))⟩ ?_
  cases hv : v.ownBlock with
  | none => exact .inl rfl
  | some j => exact .inr (fun e => by injection e with e; exact hne j hv e)

structure MkS (B : Nat) (w wr : World) (cb : Nat) (a0 : Option Addr) (len0 cap0 b2 b3 : Nat) (now : Int) (a : Option Addr) (n cap : Nat) (l : List T) : Prop where
  dr : Dr B wr cb 85 a0 len0 cap0
  g : w.grownBy wr (some cb)
  o : Bz wr b2
  x : Bx wr b3 (.int .i64 now) (.slice a n cap)
  f : Bf wr b3
  own : TOwn w.heap.size wr 28 (.slice a n cap) l
  cbl : cb < w.heap.size
  h2 : w.heap.size ≤ b2
  h3 : w.heap.size ≤ b3
  ne : b2 ≠ b3
  sep : ∀ j, (Value.slice a n cap).ownBlock = some j → j ≠ b2 ∧ j ≠ b3
section
variable {B cb len0 cap0 b2 b3 n cap n' cap' : Nat} {w wr w' w3 : World} {a0 a a' : Option Addr} {now : Int} {l l' : List T}
theorem MkS.ge (h : MkS B w wr cb a0 len0 cap0 b2 b3 now a n cap l) : ∀ j, (Value.slice a n cap).ownBlock = some j → w.heap.size ≤ j := fun j hj => (World.ownsRow.lt h.own j hj).1
theorem MkS.went (h : MkS B w wr cb a0 len0 cap0 b2 b3 now a n cap l) (hw : Went B wr w' cb 85 a0 len0 cap0) : MkS B w w' cb a0 len0 cap0 b2 b3 now a n cap l where
  dr := hw.dr
  g := grown_trans h.g hw.grown
  o := ⟨h.o.box.grown hw.grown (fun e => by injection e with e; have := h.cbl; have := h.h2; omega), h.o.fro.grown h.o.box.lt hw.grown (fun e => by injection e with e; have := h.cbl; have := h.h2; omega)⟩
  x := h.x.grown hw.grown (fun e => by injection e with e; have := h.cbl; have := h.h3; omega)
  f := h.f.grown h.x.lt hw.grown (fun e => by injection e with e; have := h.cbl; have := h.h3; omega)
  own := h.own.grown hw.grown (by
    cases hv : (Value.slice a n cap).ownBlock with
    | none => exact .inl rfl
    | some j => exact .inr (fun e => by injection e with e; have := h.ge j hv; have := h.cbl; omega))
  cbl := h.cbl
  h2 := h.h2
  h3 := h.h3
  ne := h.ne
  sep := h.sep
theorem went_of_below (hd : Dr B wr cb 85 a0 len0 cap0) (hb : Below wr.heap.size wr w') : Went B wr w' cb 85 a0 len0 cap0 :=
  ⟨hd.keep (hb.mono (Nat.le_trans hd.le (Nat.le_of_lt hd.cur.lt))) (hb.block cb hd.cur.lt), grown_of_below hb _⟩
theorem MkS.below (h : MkS B w wr cb a0 len0 cap0 b2 b3 now a n cap l) (hb : Below wr.heap.size wr w') : MkS B w w' cb a0 len0 cap0 b2 b3 now a n cap l := h.went (went_of_below h.dr hb)
/-- a store into one of the draw's own boxes leaves the cursor, and all that was there -/
theorem dr_set (hd : Dr B wr cb 85 a0 len0 cap0) (p : Addr) (z : Value) (hp : cb < p.block) : Dr B (wr.setCell p z) cb 85 a0 len0 cap0 :=
  hd.keep ((Below.refl _ _).setCell (Nat.le_trans hd.le (Nat.le_of_lt hp)) _) (heap_setCell_other wr p cb z (Nat.ne_of_lt hp))
theorem g_set (h : w.grownBy wr (some cb)) (p : Addr) (z : Value) (hp : w.heap.size ≤ p.block) : w.grownBy (wr.setCell p z) (some cb) :=
  ⟨h.os, h.tape, h.output, by simpa using h.size, fun j hj hne => (heap_setCell_other wr p j z (by omega)).trans (h.block j hj hne)⟩
theorem MkS.setNow (h : MkS B w wr cb a0 len0 cap0 b2 b3 now a n cap l) (z : Int) : MkS B w (wr.setCell ⟨b3, 0, none⟩ (.int .i64 z)) cb a0 len0 cap0 b2 b3 z a n cap l where
  dr := dr_set h.dr _ _ (by have := h.cbl; have := h.h3; show cb < b3; omega)
  g := g_set h.g _ _ h.h3
  o := ⟨h.o.box.set _ _ (Ne.symm h.ne), h.o.fro.set _ _⟩
  x := h.x.set0 _
  f := h.f.set _ _
  own := h.own.setFar _ _ (fun j hj => (h.sep j hj).2)
  cbl := h.cbl
  h2 := h.h2
  h3 := h.h3
  ne := h.ne
  sep := h.sep
/-- a new list is stored -/
theorem MkS.setList (h : MkS B w wr cb a0 len0 cap0 b2 b3 now a n cap l) (ho : TOwn w.heap.size wr 28 (.slice a' n' cap') l') (hs : ∀ j, (Value.slice a' n' cap').ownBlock = some j → j ≠ b2 ∧ j ≠ b3) :
    MkS B w (wr.setCell ⟨b3, 1, none⟩ (.slice a' n' cap')) cb a0 len0 cap0 b2 b3 now a' n' cap' l' where
  dr := dr_set h.dr _ _ (by have := h.cbl; have := h.h3; show cb < b3; omega)
  g := g_set h.g _ _ h.h3
  o := ⟨h.o.box.set _ _ (Ne.symm h.ne), h.o.fro.set _ _⟩
  x := h.x.set1 _
  f := h.f.set _ _
  own := ho.setFar _ _ (fun j hj => (hs j hj).2)
  cbl := h.cbl
  h2 := h.h2
  h3 := h.h3
  ne := h.ne
  sep := hs
/-- a whole wheel is stored, whose list was made behind the boxes -/
theorem MkS.put (h : MkS B w wr cb a0 len0 cap0 b2 b3 now a n cap l) (hb : Below wr.heap.size wr w3) (ho : TOwn wr.heap.size w3 28 (.slice a' n' cap') l') (z : Int) :
    MkS B w ((w3.setCell ⟨b3, 0, none⟩ (.int .i64 z)).setCell ⟨b3, 1, none⟩ (.slice a' n' cap')) cb a0 len0 cap0 b2 b3 z a' n' cap' l' := by
  have h2 := h.o.box.lt
  have h3 := h.x.lt
  have hn : ∀ j, (Value.slice a' n' cap').ownBlock = some j → j ≠ b2 ∧ j ≠ b3 := fun j hj => by have := (World.ownsRow.lt ho j hj).1; omega
  exact ((h.below hb).setNow z).setList ((ho.base h.g.size).setFar _ _ (fun j hj => (hn j hj).2)) hn
theorem MkS.cells (h : MkS B w wr cb a0 len0 cap0 b2 b3 now a n cap l) : wr.cell? ⟨b2, 0, none⟩ = some (.int .i64 0) ∧ wr.cell? ⟨b2, 1, none⟩ = some (.slice none 0 0) ∧ wr.frozen? ⟨b2, 0, none⟩ = false ∧ wr.frozen? ⟨b2, 1, none⟩ = false ∧
    wr.cell? ⟨b3, 0, none⟩ = some (.int .i64 now) ∧ wr.cell? ⟨b3, 1, none⟩ = some (.slice a n cap) ∧ wr.frozen? ⟨b3, 0, none⟩ = false ∧ wr.frozen? ⟨b3, 1, none⟩ = false ∧ b2 < wr.heap.size ∧ b3 < wr.heap.size :=
  ⟨h.o.box.c0, h.o.box.c1, h.o.fro.f0, h.o.fro.f1, h.x.c0, h.x.c1, h.f.f0, h.f.f1, h.o.box.lt, h.x.lt⟩
/-- behind an append to the list, ahead of the store -/
theorem MkS.app_at {v' : Value} {w2 : World} (h : MkS B w wr cb a0 len0 cap0 b2 b3 now a n cap l) (hb : Below wr.heap.size wr w') (ha : AppT w.heap.size w' (.slice a n cap) l' v' w2) :
    Bx w2 b3 (.int .i64 now) (.slice a n cap) ∧ Bf w2 b3 ∧ b3 < w2.heap.size ∧ w2.heap.size ≥ w'.heap.size := by
  have h1 := h.below hb
  have hn : (Value.slice a n cap).ownBlock ≠ some b3 := fun e => (h.sep b3 e).2 rfl
  exact ⟨h1.x.grown ha.2.1 hn, h1.f.grown h1.x.lt ha.2.1 hn, Nat.lt_of_lt_of_le h1.x.lt ha.2.1.size, ha.2.1.size⟩
theorem MkS.app {w2 : World} (h : MkS B w wr cb a0 len0 cap0 b2 b3 now a n cap l) (hb : Below wr.heap.size wr w') (ha : AppT w.heap.size w' (.slice a n cap) l' (.slice a' n' cap') w2) :
    MkS B w (w2.setCell ⟨b3, 1, none⟩ (.slice a' n' cap')) cb a0 len0 cap0 b2 b3 now a' n' cap' l' := by
  have h1 := h.below hb
  have hg := ha.2.1
  have hn2 : (Value.slice a n cap).ownBlock ≠ some b2 := fun e => (h.sep b2 e).1 rfl
  have hn3 : (Value.slice a n cap).ownBlock ≠ some b3 := fun e => (h.sep b3 e).2 rfl
  have hcb : (Value.slice a n cap).ownBlock ≠ some cb := fun e => by have := h.ge cb e; have := h.cbl; omega
  have hs : ∀ j, (Value.slice a' n' cap').ownBlock = some j → j ≠ b2 ∧ j ≠ b3 := fun j hj => by
    rcases ha.2.2 with e | e
    · exact h.sep j (by rw [← e]; exact hj)
    · rw [e] at hj
      injection hj with hj
      have := h1.o.box.lt
      have := h1.x.lt
      omega
  have hBw : B ≤ w'.heap.size := Nat.le_trans h1.dr.le (Nat.le_of_lt h1.dr.cur.lt)
  have hw : Went B w' w2 cb 85 a0 len0 cap0 → True := fun _ => trivial
  have hlow : Below B w' w2 := (Below.refl B w').grown hg hBw (fun j hj => by have := h.ge j hj; have := h.dr.le; have := h.cbl; omega)
  exact {
    dr := dr_set (h1.dr.keep hlow (hg.block cb h1.dr.cur.lt (Ne.symm hcb))) _ _ (by have := h.cbl; have := h.h3; show cb < b3; omega)
    g := g_set ⟨hg.os.trans h1.g.os, hg.tape.trans h1.g.tape, hg.output.trans h1.g.output, Nat.le_trans h1.g.size hg.size, fun j hj hne => (hg.block j (Nat.lt_of_lt_of_le hj h1.g.size) (fun e => by have := h.ge j e.symm; omega)).trans (h1.g.block j hj hne)⟩ _ _ h.h3
    o := ⟨(h1.o.box.grown hg hn2).set _ _ (Ne.symm h.ne), (h1.o.fro.grown h1.o.box.lt hg hn2).set _ _⟩
    x := (h1.x.grown hg hn3).set1 _
    f := (h1.f.grown h1.x.lt hg hn3).set _ _
    own := ha.1.setFar _ _ (fun j hj => (hs j hj).2)
    cbl := h.cbl
    h2 := h.h2
    h3 := h.h3
    ne := h.ne
    sep := hs }
/-- the boxes as they are made -/
theorem MkS.new (hd : Dr B wr cb 85 a0 len0 cap0) (hg : w.grownBy wr (some cb)) (hcb : cb < w.heap.size) (hz : Bz wr b2) (h2 : w.heap.size ≤ b2) (z : Int)
    (ho : TOwn w.heap.size wr 28 (.slice a n cap) l) (hs : ∀ j, (Value.slice a n cap).ownBlock = some j → j ≠ b2) :
    MkS B w (wr.alloc (.cells #[.int .i64 z, .slice a n cap] 26)) cb a0 len0 cap0 b2 wr.heap.size z a n cap l where
  dr := (went_of_below hd (bOne _ _)).dr
  g := grown_trans hg (grown_of_below (bOne _ _) _)
  o := hz.below (bOne _ _)
  x := Bx.new wr _ _ _
  f := Bf.new wr _ _
  own := ho.below (bOne _ _)
  cbl := hcb
  h2 := h2
  h3 := hg.size
  ne := by have := hz.box.lt; omega
  sep := fun j hj => ⟨hs j hj, by have := (World.ownsRow.lt ho j hj).2; omega⟩
end
/-- what a draw of a wheel hands back -/
def WhD (N B : Nat) (w w' : World) (cb : Nat) (a0 : Option Addr) (len0 cap0 : Nat) (e : Ending) : Prop :=
  (∃ now a n cap l, e = .returned (.agg #[.int .i64 now, .slice a n cap]) ∧ TOwn w.heap.size w' 28 (.slice a n cap) l ∧ n ≤ N ∧ n = l.length ∧ -1 ≤ now ∧ now ≤ 1000000001) ∧ Went B w w' cb 85 a0 len0 cap0
theorem MkS.done {B cb len0 cap0 b2 b3 n cap : Nat} {w wr : World} {a0 a : Option Addr} {now : Int} {l : List T} (h : MkS B w wr cb a0 len0 cap0 b2 b3 now a n cap l) (u v : Value) :
    TOwn w.heap.size ((wr.setCell ⟨b2, 0, none⟩ u).setCell ⟨b2, 1, none⟩ v) 28 (.slice a n cap) l ∧ Went B w ((wr.setCell ⟨b2, 0, none⟩ u).setCell ⟨b2, 1, none⟩ v) cb 85 a0 len0 cap0 := by
  have hp : cb < b2 := by have := h.cbl; have := h.h2; omega
  exact ⟨(h.own.setFar _ _ (fun j hj => (h.sep j hj).1)).setFar _ _ (fun j hj => (h.sep j hj).1), ⟨dr_set (dr_set h.dr _ _ hp) _ _ hp, g_set (g_set h.g _ _ h.h2) _ _ h.h2⟩⟩
end Go.Proofs.YtkoliacbajpijaaDoor.Whl
