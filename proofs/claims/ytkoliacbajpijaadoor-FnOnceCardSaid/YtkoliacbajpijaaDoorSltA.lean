/-
  The wheel's slots in memory: place.
-/
import Derived.Test.YtkoliacbajpijaaDoorTimA
import Derived.Test.YtkoliacbajpijaaDoorLvlW
import Derived.Test.YtkoliacbajpijaaDoorMapA
import Derived.Test.YtkoliacbajpijaaDoorMkA
import Derived.Deep.RegionHeld3
import Derived.Deep.AppendLies
import Derived.Deep.RegionLaw
namespace Go.Proofs.YtkoliacbajpijaaDoor.Whl
open Go.RowKit Go.Maps
set_option linter.unusedVariables false

theorem zeroInt (w : World) : (zeroValue 3).run Tryd.prog w = .ok (.int .i64 0) w := by kernel_rfl

/-- a function changed at one place -/
def upd {α : Type} (C : Nat → α) (i : Nat) (u : α) : Nat → α := fun j => if j = i then u else C j
theorem upd_same {α : Type} (C : Nat → α) (i : Nat) (u : α) : upd C i u i = u := if_pos rfl
theorem upd_other {α : Type} (C : Nat → α) {i j : Nat} (u : α) (h : j ≠ i) : upd C i u j = C j := if_neg h

/-- A block as its cells read. -/
structure SB (w : World) (b : Nat) (C : Nat → Option Value) (Fr : Nat → Bool) : Prop where
  lt : b < w.heap.size
  cell : ∀ i, w.cell? ⟨b, i, none⟩ = C i
  fro : ∀ i, w.frozen? ⟨b, i, none⟩ = Fr i
section
variable {w w' : World} {b : Nat} {C : Nat → Option Value} {Fr : Nat → Bool}
theorem SB.store (h : SB w b C Fr) (i : Nat) (u0 u : Value) (hi : C i = some u0) : SB (w.setCell ⟨b, i, none⟩ u) b (upd C i (some u)) Fr where
  lt := by simpa using h.lt
  cell j := by
    by_cases e : j = i
    · subst e
      rw [upd_same]
      exact World.cell?_setCell_same w _ u ((h.cell j).trans hi)
    · rw [upd_other _ _ e, World.cell?_setCell_other _ _ _ _ (by intro hh; injection hh with _ h2; exact e h2.symm)]
      exact h.cell j
  fro j := by rw [World.frozen?_setCell]; exact h.fro j
theorem SB.grown {r : Option Nat} (h : SB w b C Fr) (hg : w.grownBy w' r) (hne : r ≠ some b) : SB w' b C Fr where
  lt := Nat.lt_of_lt_of_le h.lt hg.size
  cell j := (hg.cell_far ⟨b, j, none⟩ h.lt (Ne.symm hne)).trans (h.cell j)
  fro j := (hg.frozen_far ⟨b, j, none⟩ h.lt (Ne.symm hne)).trans (h.fro j)
theorem SB.below (h : SB w b C Fr) (hb : Below w.heap.size w w') : SB w' b C Fr := h.grown (grown_of_below hb none) (by simp)
theorem SB.drew (h : SB w b C Fr) : SB w.drew b C Fr := ⟨h.lt, h.cell, h.fro⟩
theorem SB.alloc (h : SB w b C Fr) (o : Obj) : SB (w.alloc o) b C Fr := h.below (bOne w o)
end

/-- What has been changed: nothing but the blocks b and bm, the row r, and new blocks. -/
structure Kp (w w' : World) (b bm : Nat) (r : Option Nat) : Prop where
  os : w'.os = w.os
  tape : w'.tape = w.tape
  output : w'.output = w.output
  size : w.heap.size ≤ w'.heap.size
  block : ∀ k, k < w.heap.size → k ≠ b → k ≠ bm → r ≠ some k → w'.heap[k]? = w.heap[k]?
section
variable {w w1 w2 : World} {b bm : Nat} {r : Option Nat}
theorem Kp.refl (w : World) (b bm : Nat) (r : Option Nat) : Kp w w b bm r := ⟨rfl, rfl, rfl, Nat.le_refl _, fun _ _ _ _ _ => rfl⟩
theorem Kp.grown (h : Kp w w1 b bm r) {r' : Option Nat} (hg : w1.grownBy w2 r') (hr : ∀ k, k < w.heap.size → r' = some k → k = b ∨ k = bm ∨ r = some k) : Kp w w2 b bm r :=
  ⟨hg.os.trans h.os, hg.tape.trans h.tape, hg.output.trans h.output, Nat.le_trans h.size hg.size, fun k hk h1 h2 h3 =>
    (hg.block k (Nat.lt_of_lt_of_le hk h.size) (fun e => by
      rcases hr k hk e.symm with h | h | h
      · exact h1 h
      · exact h2 h
      · exact h3 h)).trans (h.block k hk h1 h2 h3)⟩
theorem Kp.below (h : Kp w w1 b bm r) (hb : Below w1.heap.size w1 w2) : Kp w w2 b bm r := h.grown (grown_of_below hb none) (fun _ _ e => by cases e)
theorem Kp.drew (h : Kp w w1 b bm r) : Kp w w1.drew b bm r := ⟨h.os, h.tape, h.output, h.size, h.block⟩
theorem setCell_grown (w : World) (b i : Nat) (u : Value) : w.grownBy (w.setCell ⟨b, i, none⟩ u) (some b) :=
  ⟨rfl, rfl, rfl, by simp, fun k _ hk => heap_setCell_other w ⟨b, i, none⟩ k u (fun e => hk (by simp [e]))⟩
theorem Kp.store (h : Kp w w1 b bm r) (i : Nat) (u : Value) : Kp w (w1.setCell ⟨b, i, none⟩ u) b bm r := h.grown (setCell_grown _ _ _ _) (fun k _ e => .inl (by injection e with e; exact e.symm))
theorem Kp.trans {r1 r2 : Option Nat} (h : Kp w w1 b bm r1) (h2 : Kp w1 w2 b bm r2) (e1 : r1 = r ∨ r1 = none) (e2 : r2 = r ∨ r2 = none ∨ ∀ k, r2 = some k → w.heap.size ≤ k) : Kp w w2 b bm r :=
  ⟨h2.os.trans h.os, h2.tape.trans h.tape, h2.output.trans h.output, Nat.le_trans h.size h2.size, fun k hk hb hm hr =>
    (h2.block k (Nat.lt_of_lt_of_le hk h.size) hb hm (by
      rcases e2 with e | e | e
      · rw [e]; exact hr
      · rw [e]; simp
      · intro e'; have := e k e'; omega)).trans (h.block k hk hb hm (by
      rcases e1 with e | e
      · rw [e]; exact hr
      · rw [e]; simp))⟩
end
theorem World.grownBy_drew' (w : World) (r : Option Nat) : w.grownBy w.drew r := ⟨rfl, rfl, rfl, Nat.le_refl _, fun _ _ _ => rfl⟩
theorem TOwn.grown {B : Nat} {w w' : World} {E : TypeId} {v : Value} {l : List T} {r : Option Nat} (h : TOwn B w E v l) (hg : w.grownBy w' r) (hne : v.ownBlock = none ∨ v.ownBlock ≠ r) : TOwn B w' E v l := World.ownsRow.kept h hg hne
theorem Bx.grown {w w' : World} {k : Nat} {u v : Value} {r : Option Nat} (h : Bx w k u v) (hg : w.grownBy w' r) (hne : r ≠ some k) : Bx w' k u v :=
  ⟨(hg.cell_far ⟨k, 0, none⟩ h.lt (Ne.symm hne)).trans h.c0, (hg.cell_far ⟨k, 1, none⟩ h.lt (Ne.symm hne)).trans h.c1, Nat.lt_of_lt_of_le h.lt hg.size⟩

/-- a row is no map -/
theorem own_not_map {B : Nat} {w : World} {E : TypeId} {g n cap bm m : Nat} {l : List T} {P : Program} {k : TypeId} {R : Value → Option (DataW Unit × List MemPlace)} {D : DataW Unit} (h : TOwn B w E (.slice (some ⟨g, 0, none⟩) n cap) l) (hm : w.ownsMap P k R bm m D) (e : g = bm) : False := by
  subst e
  obtain ⟨es, clock, hb, _⟩ := hm
  rcases h.2 with ⟨e, _⟩ | ⟨g', cap', cur, e, _, hg, _⟩
  · simp at e
  · simp only [Value.slice.injEq, Option.some.injEq, Addr.mk.injEq, and_true] at e
    obtain ⟨rfl, _⟩ := e
    rw [hb] at hg
    simp at hg

/-- what place leaves -/
structure Placed (B : Nat) (w w' : World) (b bm : Nat) (C : Nat → Option Value) (Fr : Nat → Bool) (l s bu n : Nat) (D : DataW Unit) (v : Value) (xs : List T) (x y : Int) (g cap : Nat) : Prop where
  sb : SB w' b (upd (upd C (6 + l * 64 + s) (some (.slice (some ⟨g, 0, none⟩) (xs.length + 1) cap))) (1 + l) (some (.int .u64 (bits BinOp.or .u64 bu (IntKind.u64.wrap (2 ^ s)))))) Fr
  own : TOwn B w' 28 (.slice (some ⟨g, 0, none⟩) (xs.length + 1) cap) (xs ++ [(x, y)])
  at_ : v.ownBlock = some g ∨ w.heap.size ≤ g
  ne : g ≠ b
  map : w'.ownsMap Tryd.prog 3 (plainElem Tryd.prog 3) bm (n + 1) (D.put (.int .i64 y) (.lit (.int .i64 x)))
  kp : Kp w w' b bm v.ownBlock

set_option maxRecDepth 100000 in
set_option maxHeartbeats 2000000 in
theorem place_walk (w : World) (B b bm : Nat) (C : Nat → Option Value) (Fr : Nat → Bool) (now x y : Int) (l s bu n : Nat) (D : DataW Unit) (v : Value) (xs : List T)
    (hl : levI now x = (l : Int)) (hs : slotI x (l : Int) = (s : Int)) (hl5 : (l : Int) < 5) (hs64 : (s : Int) < 64) (wn : (Lit.int .i64 now).wf = true) (wx : (Lit.int .i64 x).wf = true) (wl : (Lit.int .i64 (l : Int)).wf = true) (wy : (Lit.int .i64 y).wf = true)
    (hS : SB w b C Fr) (h0 : C 0 = some (.int .i64 now)) (hbu : C (1 + l) = some (.int .u64 bu)) (fbu : Fr (1 + l) = false) (hv : C (6 + l * 64 + s) = some v) (fv : Fr (6 + l * 64 + s) = false) (hm : C 326 = some (.map (some bm)))
    (hown : TOwn B w 28 v xs) (hne : v.ownBlock ≠ some b) (hmap : w.ownsMap Tryd.prog 3 (plainElem Tryd.prog 3) bm n D) (hn : n < maxLen)
    (hn1 : xs.length + 1 ≤ maxLen) (hn2 : (xs.length + 1) * 16 ≤ 140737488355328) (hB : B ≤ w.heap.size) (hbm : bm ≠ b) (hvm : v.ownBlock ≠ some bm) (hvw : ∀ k, v.ownBlock = some k → k ≠ w.heap.size) :
    Calls Tryd.prog 45 #[.pointer (some ⟨b, 0, none⟩), .agg #[.int .i64 x, .int .i64 y]] w fun e w' => e = .returned (.tuple #[]) ∧ ∃ g cap, Placed B w w' b bm C Fr l s bu n D v xs x y g cap := by
  obtain ⟨i0, hi, hz0, hz1, hz2⟩ := info_parts infoTimer
  have hlc := fun w1 => level_any now x w1 wn wx
  have hsc := fun w1 => slot_any x l w1 wx wl
  rw [hl] at hlc
  rw [hs] at hsc
  have HLC := Lib.hid hlc
  have HSC := Lib.hid hsc
  clear hl hs hlc hsc
  have hl0 : (0 : Int) ≤ (l : Int) := by omega
  have hs0 : (0 : Int) ≤ (s : Int) := by omega
  have HS := Lib.hid hS
  have HC0 := Lib.hid h0
  have HCB := Lib.hid hbu
  have HFB := Lib.hid fbu
  have HCV := Lib.hid hv
  have HFV := Lib.hid fv
  have HCM := Lib.hid hm
  have HKEY := Lib.hid (keyOf_int_mk (P := Tryd.prog) Tryd.underlying3 wy)
  have HELM := Lib.hid (plainElem_int (H := Unit) (P := Tryd.prog) Tryd.underlying3 wx)
  have hlt := hS.lt
  have k0 := (hS.cell 0).trans h0
  have HK0 := Lib.hid (Kp.refl w b bm v.ownBlock)
  clear hS h0 hbu fbu hv fv hm
  go_enter Tryd.func45, Tryd.ntmps45
  go_wp2_with fail
  go_quiet ((go_at_call 60; exact Calls.quiet_of (HLC.out _)))
  obtain ⟨w1, hw1⟩ : ∃ w1, w1 = (w.alloc (.cells #[.int .i64 x, .int .i64 y] 28)).drewN nq := ⟨_, rfl⟩
  have HB1 := Lib.hid (show Below w.heap.size w w1 by rw [hw1]; exact below_drewN (bOne _ _) _)
  have HX1 := Lib.hid (show Bx w1 w.heap.size (.int .i64 x) (.int .i64 y) by rw [hw1]; have h := Bx.new w (.int .i64 x) (.int .i64 y) 28; exact ⟨h.c0, h.c1, h.lt⟩)
  rw [← hw1]
  have HS1 := Lib.hid (HS.out.below HB1.out)
  have HK1 := Lib.hid (HK0.out.below HB1.out)
  have HOWN := Lib.hid (hown.below HB1.out)
  have HMAP := Lib.hid (hmap.kept (grown_of_below HB1.out none) (by simp))
  have hne0 : b ≠ w.heap.size := by omega
  have hB1 : B ≤ (w1.alloc (.cells #[.int .i64 x, .int .i64 y] 28)).heap.size := by have := HB1.out.size; simp; omega
  have gv := (HS1.out.cell (6 + l * 64 + s)).trans HCV.out
  clear hw1 hown hmap k0 hlt HS
  obtain ⟨x0, x1, xlt⟩ := HX1.out
  have hlt1 := HS1.out.lt
  go_wp2_with fail
  refine (HSC.out _).mono ?_
  rintro e w' ⟨rfl, rfl⟩
  go_wp2_with fail
  have HS1a := Lib.hid ((HS1.out.alloc (.cells #[.int .i64 x, .int .i64 y] 28)).drew)
  unfold TOwn at HOWN
  have gf := (HS1.out.fro (6 + l * 64 + s)).trans HFV.out
  have hvx : v.ownBlock ≠ some w.heap.size := fun e => hvw _ e rfl
  go_region_law (refine step_append_lies _ rfl _ _ _ rfl B 28 i0 _ 2 16 Tryd.underlying24 hi hz0 hz1 hz2 rfl (by omega) v xs.length (flat xs) (by simp [Act.eval]) ((HOWN.out.alloc _).drew) ⟨w1.heap.size, 0, none⟩ 1 1 [.int .i64 x, .int .i64 y] (by simp [Act.eval]) rfl (World.news_of_block (cs := #[.int .i64 x, .int .i64 y]) (t := 28) (fr := (0, 0)) (heap_alloc_new w1 _)) (by simp [Value.oneCell']) (by omega) hn1 hn2 hB1 (w1.heap.size + 1) (by simp) ?_; intro g cap w2 hown2 hgrow hat hltg; have kv := ((HS1a.out.grown hgrow hne).cell _).trans HCV.out; have kf := ((HS1a.out.grown hgrow hne).fro _).trans HFV.out)
  all_goals
    have hgb : g ≠ b := by
      intro e
      rcases hat with h | h
      · exact hne (e ▸ h)
      · omega
    have hat2 : v.ownBlock = some g ∨ w.heap.size ≤ g := hat.imp id (fun h => by have := HB1.out.size; omega)
    have hbm1 := HMAP.out.lt
    have HS3 := Lib.hid ((HS1a.out.grown hgrow hne).store (6 + l * 64 + s) v (.slice (some ⟨g, 0, none⟩) (xs.length + 1) cap) HCV.out)
    have hsg := setCell_grown w2 b (6 + l * 64 + s) (.slice (some ⟨g, 0, none⟩) (xs.length + 1) cap)
    have HO3 := Lib.hid (TOwn.grown (l := xs ++ [(x, y)]) (v := .slice (some ⟨g, 0, none⟩) (xs.length + 1) cap) (by unfold TOwn; rw [flat_snoc, List.length_append]; exact hown2) hsg (.inr (by simpa [Value.ownBlock] using hgb)))
    have HX3 := Lib.hid ((((Bx.below HX1.out (bOne w1 (.cells #[.int .i64 x, .int .i64 y] 28))).grown (World.grownBy_drew' _ none) (by simp)).grown hgrow hvx).grown hsg (by simpa using hne0))
    have HM3 := Lib.hid ((((HMAP.out.alloc (.cells #[.int .i64 x, .int .i64 y] 28)).drew.kept hgrow (Ne.symm hvm)).kept hsg (by simpa using hbm)))
    have HK3 := Lib.hid ((((HK1.out.below (bOne w1 (.cells #[.int .i64 x, .int .i64 y] 28))).drew.grown hgrow (fun k hk e => .inr (.inr e))).store (6 + l * 64 + s) (.slice (some ⟨g, 0, none⟩) (xs.length + 1) cap)))
    obtain ⟨w3, hw3⟩ : ∃ w3, w3 = w2.setCell ⟨b, 6 + l * 64 + s, none⟩ (.slice (some ⟨g, 0, none⟩) (xs.length + 1) cap) := ⟨_, rfl⟩
    rw [← hw3] at HS3 HO3 HX3 HM3 HK3 ⊢
    clear hw3 hsg hown2 hgrow hat hltg kv kf hbm1 x0 x1 xlt gv hlt1
    obtain ⟨x0, x1, xlt⟩ := HX3.out
    have kb := (HS3.out.cell (1 + l)).trans ((upd_other _ _ (by omega)).trans HCB.out)
    have kbf := (HS3.out.fro (1 + l)).trans HFB.out
    go_wp2_with fail
    go_region
    obtain ⟨u4, hu4⟩ : ∃ u : Value, u = .int .u64 (bits BinOp.or .u64 bu (IntKind.u64.wrap (2 ^ s))) := ⟨_, rfl⟩
    rw [← hu4]
    have HU4 := Lib.hid hu4
    have HS4 := Lib.hid ((HS3.out.store (1 + l) (.int .u64 bu) u4 ((upd_other _ _ (by omega)).trans HCB.out)).drew)
    have hsg := setCell_grown w3 b (1 + l) u4
    have HO4 := Lib.hid ((HO3.out.grown hsg (.inr (by simpa [Value.ownBlock] using hgb))).grown (World.grownBy_drew' _ none) (.inr (by simp [Value.ownBlock])))
    have HX4 := Lib.hid ((HX3.out.grown hsg (by simpa using hne0)).grown (World.grownBy_drew' _ none) (by simp))
    have HM4 := Lib.hid ((HM3.out.kept hsg (by simpa using hbm)).drew)
    have HK4 := Lib.hid ((HK3.out.store (1 + l) u4).drew)
    obtain ⟨w4, hw4⟩ : ∃ w4, w4 = (w3.setCell ⟨b, 1 + l, none⟩ u4).drew := ⟨_, rfl⟩
    rw [← hw4] at HS4 HO4 HX4 HM4 HK4 ⊢
    clear hw4 hu4 hsg kb kbf x0 x1 xlt
    obtain ⟨x0, x1, xlt⟩ := HX4.out
    have km := (HS4.out.cell 326).trans ((upd_other _ _ (by omega)).trans ((upd_other _ _ (by omega)).trans HCM.out))
    obtain ⟨w5, hrun, hmap5, hg5⟩ := (HM4.out.drew).update keyInt Tryd.underlying70 hn HKEY.out HELM.out
    have HM5 := Lib.hid hmap5
    have HG5 := Lib.hid hg5
    clear hmap5 hg5
    go_wp2_with fail
    go_region
    go_wp2_with fail
    go_end0
    refine ⟨rfl, g, cap, ⟨?_, ?_, hat2, hgb, HM5.out, ?_⟩⟩
    · rw [← HU4.out]
      exact (HS4.out.drew).grown HG5.out (by simpa using hbm)
    · have hgm : (Value.slice (some ⟨g, 0, none⟩) (xs.length + 1) cap).ownBlock ≠ some bm := by
        intro e
        simp only [Value.ownBlock, Option.some.injEq] at e
        subst e
        exact own_not_map HO4.out HM4.out rfl
      exact (HO4.out.grown (World.grownBy_drew' _ none) (.inr (by simp [Value.ownBlock]))).grown HG5.out (.inr hgm)
    · exact (HK4.out.drew).grown HG5.out (fun k hk e => .inr (.inl (by injection e with e; exact e.symm)))
end Go.Proofs.YtkoliacbajpijaaDoor.Whl
