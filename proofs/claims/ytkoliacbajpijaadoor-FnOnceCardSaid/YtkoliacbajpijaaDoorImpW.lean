/-
  The walks of copyWheel, DropTimer and SetTimer.
-/
import Derived.Test.YtkoliacbajpijaaDoorDrpW
import Derived.Test.YtkoliacbajpijaaDoorWokA
import Derived.Lib.SliceRun
namespace Go.Proofs.YtkoliacbajpijaaDoor.Whl
open Go.RowKit Go.Maps
set_option linter.unusedVariables false

theorem Bx.low {B : Nat} {w w' : World} {k : Nat} {u v : Value} (h : Bx w k u v) (hb : Below B w w') (hk : k < B) : Bx w' k u v :=
  ⟨(hb.cell (p := ⟨k, 0, none⟩) hk).trans h.c0, (hb.cell (p := ⟨k, 1, none⟩) hk).trans h.c1, Nat.lt_of_lt_of_le h.lt hb.size⟩
/-- a box of two cells, none of them frozen -/
structure Bf (w : World) (k : Nat) : Prop where
  f0 : w.frozen? ⟨k, 0, none⟩ = false
  f1 : w.frozen? ⟨k, 1, none⟩ = false
theorem Bf.new (w : World) (cs : Array Value) (t : TypeId) : Bf (w.alloc (.cells cs t)) w.heap.size := ⟨frozen_of_row _ _ 0 _ t (heap_alloc_new w _), frozen_of_row _ _ 1 _ t (heap_alloc_new w _)⟩
theorem Bf.low {B : Nat} {w w' : World} {k : Nat} (h : Bf w k) (hb : Below B w w') (hk : k < B) : Bf w' k :=
  ⟨(hb.frozen (p := ⟨k, 0, none⟩) hk).trans h.f0, (hb.frozen (p := ⟨k, 1, none⟩) hk).trans h.f1⟩
theorem TIs.flat {B : Nat} {w : World} {ad : Addr} {len : Nat} {l : List T} (h : TIs B w (some ad) len l) : ∀ j u, (flat l)[j]? = some u → w.cell? (ad.add j) = some u := by
  intro j u hu
  have hj : j < l.length * 2 := by
    have := (List.getElem?_eq_some_iff.1 hu).1
    rwa [flat_len] at this
  obtain ⟨b, off, e, _, c0, c1⟩ := h.cell (j / 2) (by omega)
  injection e with e
  subst e
  have hg := flat_get l (j / 2) (by omega)
  have hadd : (⟨b, off, none⟩ : Addr).add j = ⟨b, off + j, none⟩ := by unfold Addr.add; split <;> simp_all
  rw [hadd]
  have h2 : j % 2 = 0 ∨ j % 2 = 1 := by omega
  rcases h2 with h2 | h2
  · have e2 : j / 2 * 2 = j := by omega
    rw [e2] at c0 hg
    rw [hg.1] at hu
    rw [c0]
    exact hu
  · have e2 : j / 2 * 2 + 1 = j := by omega
    have h1 := hg.2
    rw [e2] at h1
    rw [Nat.add_assoc, e2] at c1
    rw [h1] at hu
    rw [c1]
    exact hu
/-- a slice of timers that was handed back: new, and of the call's own -/
def SliceEnd (w w' : World) (l : List T) (e : Ending) : Prop :=
  (∃ a cap, e = .returned (.slice a l.length cap) ∧ TOwn w.heap.size w' 28 (.slice a l.length cap) l) ∧ Below w.heap.size w w'

set_option maxRecDepth 100000 in
set_option maxHeartbeats 1000000 in
theorem clone_walk (w : World) (a : Option Addr) (len cap : Nat) (l : List T) (h : TIs w.heap.size w a len l) (hlen : len ≤ 1048576) :
    Calls Tryd.prog 59 #[.slice a len cap] w fun e w' => SliceEnd w w' l e := by
  obtain ⟨i0, hi, hz0, hz1, hz2⟩ := info_parts infoTimer
  have HL := Lib.hid h.hlen
  have hnil : ∀ (w : World) (a : Option Addr) (n c : Nat), (binOp .eql 24 (.slice a n c) (.slice none 0 0)).run Tryd.prog w = .ok (.bool a.isNone) w := fun w a n c => Lib.run_eql_slice_nil w _ _ a n c 0 0 Tryd.underlying24
  cases a with
  | none =>
    have hl0 : l = [] := by
      cases hc : l with
      | nil => rfl
      | cons t r =>
        obtain ⟨b, off, e, _⟩ := h.cell 0 (by rw [hc]; simp)
        cases e
    subst hl0
    have hl1 : len = 0 := by have := h.hlen; simpa using this.symm
    subst hl1
    clear h
    go_enter Tryd.func59, Tryd.ntmps59
    go_wp2_with fail
    go_ret
    exact ⟨⟨none, 0, rfl, World.ownsRow_nil _ _ _ _⟩, Below.refl _ _⟩
  | some ad =>
    have hnews := (h.below (bOne w (.cells #[] 28))).flat
    have HNEWS := Lib.hid hnews
    have HE := Lib.hid (World.ownsRow_lit (base := w.heap.size) (e := 28) (size := 2) w #[] 0 (Nat.le_refl _) (by unfold maxLen; omega) rfl)
    clear h hnews
    go_enter Tryd.func59, Tryd.ntmps59
    go_wp2_with (first | (at_builtin; refine wpList_append_own_at _ rfl _ _ 24 rfl w.heap.size 28 i0 _ 2 16 Tryd.underlying24 hi hz0 hz1 hz2 rfl (by omega) _ 0 [] rfl HE.out ad len cap (flat l) rfl (by rw [flat_len, HL.out]) HNEWS.out (flat_one l) (by unfold maxLen; omega) (by omega) (by simp) ?_; intro v' w6 hown6 hgrow6 _ hat6) | fail)
    go_ret
    have ho : TOwn w.heap.size w6 28 v' l := by
      unfold TOwn
      rw [HL.out]
      simpa using hown6
    obtain ⟨a', c', rfl⟩ := ho.shape
    exact ⟨⟨a', c', rfl, ho⟩, (bOne w _).grown hgrow6 (by simp) (fun k e => by cases e; exact Nat.le_refl _)⟩

set_option maxRecDepth 100000 in
set_option maxHeartbeats 1000000 in
theorem copyWheel_walk (w : World) (a : Option Addr) (len cap : Nat) (now : Int) (l : List T) (h : TIs w.heap.size w a len l) (hlen : len ≤ 1048576) :
    Calls Tryd.prog 42 #[.agg #[.int .i64 now, .slice a len cap]] w fun e w' => WheelEnd w.heap.size w w' now l e := by
  have hb0 : ∀ o1 o2, Below w.heap.size w ((w.alloc o1).alloc o2) := fun o1 o2 => ((Below.refl _ _).alloc (Nat.le_refl _) _).alloc (by simp) _
  have H0 := Lib.hid hb0
  have HT := Lib.hid (h.here (hb0 (.cells #[.int .i64 now, .slice a len cap] 26) (.cells #[.int .i64 0, .slice none 0 0] 26)))
  have HX := Lib.hid (fun (u v u2 v2 : Value) (t : TypeId) => And.intro ((Bx.new w u v t).below (bOne (w.alloc (.cells #[u, v] t)) (.cells #[u2, v2] t))) (And.intro (Bx.new (w.alloc (.cells #[u, v] t)) u2 v2 t) (And.intro ((Bf.new w #[u, v] t).low (B := w.heap.size + 1) ((Below.refl _ _).alloc (by simp) (.cells #[u2, v2] t)) (by omega)) (Bf.new (w.alloc (.cells #[u, v] t)) #[u2, v2] t))))
  clear h hb0
  go_enter Tryd.func42, Tryd.ntmps42
  go_wp2_with fail
  refine (clone_walk _ a len cap l HT.out hlen).mono ?_
  rintro e w3 ⟨⟨a', cap', rfl, ho⟩, hb3⟩
  obtain ⟨hx0, hx1, hx2, hx3⟩ := HX.out (.int .i64 now) (.slice a len cap) (.int .i64 0) (.slice none 0 0) 26
  have HP := Lib.hid (hx0.below hb3)
  have HP1 := Lib.hid (show Bx w3 (w.heap.size + 1) _ _ by have := hx1.below hb3; simpa using this)
  have HF := Lib.hid (hx2.low hb3 (by simp; omega))
  have HF1 := Lib.hid (show Bf w3 (w.heap.size + 1) by have := hx3.low hb3 (by simp); simpa using this)
  clear hx0 hx1 hx2 hx3
  have c0 := HP.out.c0
  have c1 := HP.out.c1
  have c2 := HP1.out.c0
  have c3 := HP1.out.c1
  have f0 := HF.out.f0
  have f1 := HF.out.f1
  have f2 := HF1.out.f0
  have f3 := HF1.out.f1
  have hz : w.heap.size + 2 ≤ w3.heap.size := by have := hb3.size; simp at this; omega
  have HB3 := Lib.hid hb3
  have HO := Lib.hid ho
  clear hb3 ho
  go_wp2_with fail
  refine bodyPost_ret (v := .agg #[.int .i64 now, .slice a' l.length cap']) (by simp [results, Tryd.results42, go_sem, c2, c3]) rfl ⟨⟨a', cap', rfl, ?_⟩, ?_⟩
  · exact (((HO.out.setLow (by simp; omega) _).setLow (by simp) _).setLow (by simp) _).base (by simp; omega)
  · exact ((((H0.out _ _).trans (HB3.out.mono (by simp; omega))).setCell (by simp) _).setCell (by simp) _).setCell (by simp) _
end Go.Proofs.YtkoliacbajpijaaDoor.Whl
