/-
  The walk of empty: all timers come out, in order.
-/
import Derived.Test.YtkoliacbajpijaaDoorFilW
namespace Go.Proofs.YtkoliacbajpijaaDoor.Whl
open Go.RowKit Go.Maps
set_option linter.unusedVariables false

/-- a wheel that was handed back: its list is of the call's own -/
def WheelEnd (B : Nat) (w w' : World) (now : Int) (S : List T) (e : Ending) : Prop :=
  (∃ a cap, e = .returned (.agg #[.int .i64 now, .slice a S.length cap]) ∧ TOwn w.heap.size w' 28 (.slice a S.length cap) S) ∧ Below B w w'
theorem KpV.cellFar {w w1 : World} {b bm : Nat} {v v1 : Nat → Nat → Value} (h : KpV w w1 b bm v v1) {k : Nat} (hk : k < w.heap.size) (hf : Far b bm v k) (i : Nat) : w1.cell? ⟨k, i, none⟩ = w.cell? ⟨k, i, none⟩ ∧ w1.frozen? ⟨k, i, none⟩ = w.frozen? ⟨k, i, none⟩ :=
  ⟨World.cell?_of_block (h.block k hk hf), World.frozen?_of_block (h.block k hk hf)⟩
theorem dueL_all {S : List T} (h : ∀ t ∈ S, t.1 ≤ 1000000000) : dueL S 1000000000 = S := List.filter_eq_self.2 (fun t ht => by simpa using h t ht)

/-- blocks that are none of the slots' stay -/
def KpF (w w' : World) (b bm : Nat) (v : Nat → Nat → Value) : Prop := ∀ k, k < w.heap.size → Far b bm v k → w'.heap[k]? = w.heap[k]?
set_option maxRecDepth 100000 in
set_option maxHeartbeats 1000000 in
theorem empty_walk' (w : World) (B b bm : Nat) (now : Int) (f : Nat → Nat → List T) (v : Nat → Nat → Value) (n : Nat) (D : DataW Unit) (L S : List T)
    (hst : WstE B w b bm now f v n D) (hfit : Fit now f L) (hliv : Liv now L) (hbd : n + meas now L ≤ 4000) (hlen : L.length ≤ 100) (hS : Srt S) (hmem : ∀ t, t ∈ S ↔ t ∈ L)
    (hT : TabD w) (hG : 0 < B) (hb : B ≤ b) (hm : B ≤ bm) :
    Calls Tryd.prog 46 #[.pointer (some ⟨b, 0, none⟩)] w fun e w' => WheelEnd B w w' now S e ∧ KpF w w' b bm v := by
  have hbox := bOne w (.cells #[.int .i64 0, .slice none 0 0] 26)
  have hx := Bx.new w (.int .i64 0) (.slice none 0 0) 26
  have hst1 := hst.below hbox
  have hfar := hst.far_new (k := w.heap.size) (Nat.le_refl _)
  have hturn := turn_walk (w.alloc (.cells #[.int .i64 0, .slice none 0 0] 26)) B b bm now 1000000000 f v n D L hst1 hfit hliv hliv.n1 (by omega) hbd hlen (hT.below hbox (Nat.lt_of_lt_of_le hG hst.hB)) hG hb hm
  have HT := Lib.hid hturn
  have HX := Lib.hid hx
  have HBX := Lib.hid hbox
  have HST := Lib.hid hst
  have HFAR := Lib.hid hfar
  have HS := Lib.hid hS
  have HMEM := Lib.hid hmem
  have HLIV := Lib.hid hliv
  have HBM := Lib.hid (And.intro hb hm)
  have HB := Lib.hid hst.hB
  have hblt := hst.blt
  have k0 := hst1.nowCell.1
  clear hst hfit hliv hbd hlen hS hmem hT hG hb hm hbox hx hst1 hfar hturn
  go_enter Tryd.func46, Tryd.ntmps46
  go_wp2_with fail
  refine HT.out.mono ?_
  rintro e w2 ⟨f2, v2, n2, D2, L2, due, vd, rfl, hI, hlate⟩
  have hL2 : L2 = [] := by
    cases hc : L2 with
    | nil => rfl
    | cons t r =>
      exfalso
      have h1 := hlate t (by rw [hc]; simp)
      have h2 := (hI.liv.rng t (by rw [hc]; simp)).2.1
      omega
  have hdue : due = S := by
    have := (hI.isDue.end_ hlate HS.out HMEM.out).1
    rw [this]
    exact dueL_all (fun t ht => (HLIV.out.rng t ((HMEM.out t).1 ht)).2.1)
  subst hdue
  obtain ⟨a, cap, hvd⟩ := hI.own.shape
  subst hvd
  obtain ⟨q0, q1⟩ := hI.kp.cellFar (k := w.heap.size) HX.out.lt HFAR.out 0
  obtain ⟨p0, p1⟩ := hI.kp.cellFar (k := w.heap.size) HX.out.lt HFAR.out 1
  have z0 := q0.trans HX.out.c0
  have z1 := p0.trans HX.out.c1
  have y0 : w2.frozen? ⟨w.heap.size, 0, none⟩ = false := q1.trans (frozen_of_row _ _ 0 _ 26 (heap_alloc_new w _))
  have y1 : w2.frozen? ⟨w.heap.size, 1, none⟩ = false := p1.trans (frozen_of_row _ _ 1 _ 26 (heap_alloc_new w _))
  have HI := Lib.hid hI
  have HKF := Lib.hid (fun k (hk : k < w.heap.size) (hf : Far b bm v k) => (hI.kp.block k (by simp; omega) hf).trans (Below.heap_alloc w (.cells #[.int .i64 0, .slice none 0 0] 26) k hk))
  have HLOW := Lib.hid (hI.kp.low HBM.out.1 HBM.out.2 (fun i j hi hj g hg => (HST.out.vlt hi hj hg).1) (by have := HB.out; simp; omega))
  clear hI hlate hL2 q0 q1 p0 p1 k0
  go_wp2_with fail
  refine bodyPost_ret (v := .agg #[.int .i64 now, .slice a due.length cap]) (by simp [results, Tryd.results46, go_sem, z0, z1]) rfl ⟨⟨⟨a, cap, rfl, ?_⟩, ?_⟩, fun k hk hf => ?_⟩
  · have h1 := HI.out.own
    have hfb : ∀ k, (Value.slice a due.length cap).ownBlock = some k → w.heap.size + 1 ≤ k := fun k hk => by have := (HI.out.far k hk).1; simpa using this
    have h2 : TOwn (w.heap.size + 1) w2 28 (.slice a due.length cap) due := by
      refine ⟨h1.1, ?_⟩
      rcases h1.2 with e | ⟨g, cap', cur, e, _, r⟩
      · exact .inl e
      · exact .inr ⟨g, cap', cur, e, hfb g (by rw [e]; rfl), r⟩
    exact ((h2.setLow (by simp) _).setLow (by simp) _).base (by omega)
  · exact (((Below.refl B w).alloc HB.out _).trans HLOW.out).setCell (by simpa using HB.out) _ |>.setCell (by simpa using HB.out) _
  · rw [heap_setCell_other _ _ _ _ (by simp; omega), heap_setCell_other _ _ _ _ (by simp; omega)]
    exact HKF.out k hk hf
theorem empty_walk (w : World) (B b bm : Nat) (now : Int) (f : Nat → Nat → List T) (v : Nat → Nat → Value) (n : Nat) (D : DataW Unit) (L S : List T)
    (hst : WstE B w b bm now f v n D) (hfit : Fit now f L) (hliv : Liv now L) (hbd : n + meas now L ≤ 4000) (hlen : L.length ≤ 100) (hS : Srt S) (hmem : ∀ t, t ∈ S ↔ t ∈ L)
    (hT : TabD w) (hG : 0 < B) (hb : B ≤ b) (hm : B ≤ bm) :
    Calls Tryd.prog 46 #[.pointer (some ⟨b, 0, none⟩)] w fun e w' => WheelEnd B w w' now S e :=
  (empty_walk' w B b bm now f v n D L S hst hfit hliv hbd hlen hS hmem hT hG hb hm).mono fun e w' h => h.1
end Go.Proofs.YtkoliacbajpijaaDoor.Whl
