/-
  The walk of the program's Answer.
  A link's list that grows in a box; the walks of the specification's Forget, Answer and Late.
  The specification's functions on links, whatever the cap of what flies.
  The walk of the specification's Late.
  The specification's functions on links, whatever the cap of what flies.
-/
import Derived.Test.YtlcllbdalabciaaMgm
import Derived.Deep.RegionLaw
import Derived.Test.YtlcllbdalabciaaMgd
namespace Go.Proofs.Ytlcllbdalabciaa.Lnk
open Go.RowKit
set_option linter.unusedVariables false

end Go.Proofs.Ytlcllbdalabciaa.Lnk
namespace Go.Proofs.Ytlcllbdalabciaa.Lnk
open Go.RowKit
open Go.Proofs.Ytlcllbdalabciaa.Kit (append_one)
set_option linter.unusedVariables false

theorem setCell_grown (w : World) (o k : Nat) (v : Value) : w.grownBy (w.setCell ⟨o, k, none⟩ v) (some o) :=
  ⟨rfl, rfl, rfl, by simp, fun j _ hj => heap_setCell_other w ⟨o, k, none⟩ j v (fun e => hj (by simp [e]))⟩
/-- a link in a box at o, whose list is of the call's own -/
structure G4 (w : World) (o : Nat) (up : Bool) (ep sq : Int) (v : Value) (S : List Y) : Prop where
  box : B4 w o up ep sq v
  fro : Fr w o
  own : YOwn o w 113 v S
  ne : v.ownBlock ≠ some o
section
variable {w w1 w2 : World} {o : Nat} {up : Bool} {ep sq : Int} {v v' : Value} {S S' : List Y}
theorem G4.below (h : G4 w o up ep sq v S) (hb : Below w.heap.size w w1) : G4 w1 o up ep sq v S := ⟨h.box.below hb, h.fro.low hb h.box.lt, h.own.below hb, h.ne⟩
theorem G4.grown {r : Option Nat} (h : G4 w o up ep sq v S) (hg : w.grownBy w1 r) (hne : r ≠ some o) (hv : v.ownBlock = none ∨ v.ownBlock ≠ r) : G4 w1 o up ep sq v S := ⟨h.box.grown hg hne, h.fro.grown h.box.lt hg hne, h.own.grown hg hv, h.ne⟩
theorem G4.cells (h : G4 w o up ep sq v S) : (w.cell? ⟨o, 0, none⟩ = some (.bool up) ∧ w.cell? ⟨o, 1, none⟩ = some (.int .i64 ep) ∧ w.cell? ⟨o, 2, none⟩ = some (.int .i64 sq) ∧ w.cell? ⟨o, 3, none⟩ = some v) ∧ w.frozen? ⟨o, 3, none⟩ = false ∧ o < w.heap.size := ⟨⟨h.box.c0, h.box.c1, h.box.c2, h.box.c3⟩, h.fro 3, h.box.lt⟩
/-- behind an append, ahead of the store -/
theorem G4.at_ (h : G4 w o up ep sq v S) (hb : Below w.heap.size w w1) (ha : AppY o w1 v S' v' w2) : B4 w2 o up ep sq v ∧ Fr w2 o ∧ (v'.ownBlock ≠ some o) := by
  have h1 := h.below hb
  have hg := ha.2.1
  refine ⟨h1.box.grown hg h.ne, h1.fro.grown h1.box.lt hg h.ne, ?_⟩
  rcases ha.2.2 with e | e
  · rw [e]; exact h.ne
  · rw [e]
    have := h1.box.lt
    simp
    omega
theorem G4.app (h : G4 w o up ep sq v S) (hb : Below w.heap.size w w1) (ha : AppY o w1 v S' v' w2) : G4 (w2.setCell ⟨o, 3, none⟩ v') o up ep sq v' S' ∧ Below o w (w2.setCell ⟨o, 3, none⟩ v') := by
  obtain ⟨h1, h2, h3⟩ := h.at_ hb ha
  have hBw : o ≤ w.heap.size := Nat.le_of_lt h.box.lt
  refine ⟨⟨h1.set3 v', h2.set _ _, ha.1.grown (setCell_grown w2 o 3 v') (.inr h3), h3⟩, ?_⟩
  exact (ha.below (hb.mono hBw) hBw (fun k hk => (World.ownsRow.lt h.own k hk).1)).setCell (by simp) _
end
theorem g4_start (W : World) (up : Bool) (ep sq : Int) : G4 ((W.alloc (.cells #[.bool up, .int .i64 ep, .int .i64 sq, .slice (some ⟨W.heap.size + 1, 0, none⟩) 0 0] 56)).alloc (.cells #[] 113)) W.heap.size up ep sq (.slice (some ⟨W.heap.size + 1, 0, none⟩) 0 0) [] := by
  have h1 := B4.new W up ep sq (.slice (some ⟨W.heap.size + 1, 0, none⟩) 0 0) 56
  have h2 := Fr.new W #[.bool up, .int .i64 ep, .int .i64 sq, .slice (some ⟨W.heap.size + 1, 0, none⟩) 0 0] 56
  have hb := bOne (W.alloc (.cells #[.bool up, .int .i64 ep, .int .i64 sq, .slice (some ⟨W.heap.size + 1, 0, none⟩) 0 0] 56)) (.cells #[] 113)
  have h3 := ylit (W.alloc (.cells #[.bool up, .int .i64 ep, .int .i64 sq, .slice (some ⟨W.heap.size + 1, 0, none⟩) 0 0] 56)) 113
  have e : (W.alloc (.cells #[.bool up, .int .i64 ep, .int .i64 sq, .slice (some ⟨W.heap.size + 1, 0, none⟩) 0 0] 56)).heap.size = W.heap.size + 1 := by simp
  rw [e] at h3
  exact ⟨h1.below hb, h2.low hb h1.lt, h3.base (by omega), by simp [Value.ownBlock]⟩
theorem g4_low (W : World) (up : Bool) (ep sq : Int) : Below W.heap.size W ((W.alloc (.cells #[.bool up, .int .i64 ep, .int .i64 sq, .slice (some ⟨W.heap.size + 1, 0, none⟩) 0 0] 56)).alloc (.cells #[] 113)) := bAfter (bOne _ _) (bOne _ _) (by simp)
theorem AppY.form {B : Nat} {w w' : World} {v v' : Value} {xs : List Y} (h : AppY B w v xs v' w') : ∃ a n c, v' = Value.slice a n c := by
  obtain ⟨a, c, e⟩ := h.1.shape
  exact ⟨a, _, c, e⟩
theorem stay_yes {p : Y → Bool} {l : List Y} {k : Nat} {t : Y} (hk : k < l.length) (e : l[k] = t) (h : p t = true) : stayL p (l.take (k + 1)) = stayL p (l.take k) ∧ goneL p (l.take (k + 1)) = goneL p (l.take k) ++ [t] := by
  subst e; exact stayL_step_yes hk h
theorem stay_no {p : Y → Bool} {l : List Y} {k : Nat} {t : Y} (hk : k < l.length) (e : l[k] = t) (h : p t = false) : stayL p (l.take (k + 1)) = stayL p (l.take k) ++ [t] ∧ goneL p (l.take (k + 1)) = goneL p (l.take k) := by
  subst e; exact stayL_step_no hk h


end Go.Proofs.Ytlcllbdalabciaa.Lnk
namespace Go.Proofs.Ytlcllbdalabciaa.Lnk
open Go.RowKit
open Go.Proofs.Ytlcllbdalabciaa.Kit (append_one)
set_option linter.unusedVariables false

set_option maxRecDepth 100000 in
set_option maxHeartbeats 2000000 in
theorem specForgetC_any (w : World) (a : Option Addr) (len cap : Nat) (up : Bool) (ep sq : Int) (l : List Y) (id : Int) (h : YIs w.heap.size w a len l) (hlen : len ≤ 1048576) :
    Calls Try.prog 60 #[.agg #[.bool up, .int .i64 ep, .int .i64 sq, .slice a len cap], .int .i64 id] w fun en w' => LinkEnd w w' up ep sq (fgtL up ep sq l id) en := by
  obtain ⟨i0, hi, hz0, hz1, hz2⟩ := info_parts infoInt
  have hf := Fr2.two w up ep sq a len cap l h 56 56
  have HHL := Lib.hid h.hlen
  have HF := Lib.hid hf
  clear h hf
  go_enter Try.func60, Try.ntmps60
  go_wp2_with fail
  refine (specLinkOk_any _ a len cap up ep sq l HF.out.here).mono ?_
  rintro en w3 ⟨rfl, hb3⟩
  have HF3 := Lib.hid (HF.out.step hb3)
  clear hb3 HF
  obtain ⟨⟨c0, c1, c2, c3⟩, ⟨d0, d1, d2, d3⟩, ⟨f0, f1, f2, f3⟩, g3⟩ := HF3.out.cells
  cases hok : lokB up ep sq l with
  | false =>
    have HNO := Lib.hid hok
    clear hok
    go_wp2_with fail
    refine (specCopyC_any _ a len cap up ep sq l HF3.out.here hlen).mono ?_
    rintro en w4 ⟨⟨a1, cap1, rfl, ho4⟩, hb4⟩
    have HF4 := Lib.hid (HF3.out.step hb4)
    have HE := Lib.hid (fun x0 x1 x2 x3 => HF4.out.end_ ho4 HF3.out.b1.lt x0 x1 x2 x3)
    clear hb4 ho4 c0 c1 c2 c3 d0 d1 d2 d3 f0 f1 f2 f3 g3
    obtain ⟨⟨c0, c1, c2, c3⟩, ⟨d0, d1, d2, d3⟩, ⟨f0, f1, f2, f3⟩, g3⟩ := HF4.out.cells
    go_wp2_with fail
    refine bodyPost_ret (v := .agg #[.bool up, .int .i64 ep, .int .i64 sq, .slice a1 l.length cap1]) (by simp [results, Try.results60, go_sem, d0, d1, d2, d3]) rfl ?_
    unfold fgtL
    rw [HNO.out]
    exact ⟨⟨a1, cap1, rfl, (HE.out _ _ _ _).1⟩, (HE.out _ _ _ _).2⟩
  | true =>
    have HJ := Lib.hid hok
    have HL8 := Lib.hid (lokB_iff.1 hok).len
    clear hok
    go_wp2_with fail
    have HG0 := Lib.hid (g4_start w3 up ep sq)
    have hgl := g4_low w3 up ep sq
    have HF0 := Lib.hid (HF3.out.step hgl)
    have HR3 := Lib.hid HF3.out.b1.lt
    clear hgl c0 c1 c2 c3 d0 d1 d2 d3 f0 f1 f2 f3 g3
    obtain ⟨W, hW⟩ : ∃ W, W = (w3.alloc (.cells #[.bool up, .int .i64 ep, .int .i64 sq, .slice (some ⟨w3.heap.size + 1, 0, none⟩) 0 0] 56)).alloc (.cells #[] 113) := ⟨_, rfl⟩
    rw [← hW] at HG0 HF0 ⊢
    clear hW
    obtain ⟨o, ho⟩ : ∃ o, o = w3.heap.size := ⟨_, rfl⟩
    rw [← ho] at HG0 HR3 ⊢
    have HOE := Lib.hid ho
    clear ho
    go_loopw [6] (fun i wr => ∃ (k : Nat) (v : Value), k ≤ len ∧ i = .int .i64 k ∧ Hid (Fr2 w wr (w.heap.size + 1) up ep sq a len cap l) ∧ Hid (G4 wr o up ep sq v (stayL (isI id) (l.take k)))) (fun i _ => len - (intOf i).toNat)
    case atStart => exact ⟨0, _, by omega, rfl, HF0, HG0⟩
    case round =>
      obtain ⟨k, v, hk, rfl, HF, HG⟩ := hrel
      obtain ⟨⟨c0, c1, c2, c3⟩, ⟨d0, d1, d2, d3⟩, ⟨f0, f1, f2, f3⟩, g3⟩ := HF.out.cells
      obtain ⟨⟨k0, k1, k2, k3⟩, k4, k5⟩ := HG.out.cells
      by_cases hlt : (k : Int) < (len : Int)
      · have hkl : k < l.length := by have := HHL.out; omega
        obtain ⟨b', off, rfl, hbw, e0, e1, e2⟩ := HF.out.yis.cell k hkl
        have hbw2 : b' < wr.heap.size := by have := HF.out.low.size; omega
        obtain ⟨x, hx⟩ : ∃ x, x = l[k].1 := ⟨_, rfl⟩
        obtain ⟨y, hy⟩ : ∃ y, y = l[k].2.1 := ⟨_, rfl⟩
        obtain ⟨z, hz⟩ : ∃ z, z = l[k].2.2 := ⟨_, rfl⟩
        have HXY := Lib.hid (show l[k] = (x, y, z) by rw [hx, hy, hz])
        rw [← hx] at e0
        rw [← hy] at e1
        rw [← hz] at e2
        clear hx hy hz
        have HLT := Lib.hid (show (stayL (isI id) (l.take k)).length + 1 ≤ 2000000 by have h1 := stayL_len (isI id) (l.take k); have h2 := HL8.out; simp only [List.length_take] at h1; omega)
        by_cases hp : y = id
        · have hb1 : (y != id) = false := by simp [hp]
          have hs := stay_yes (p := (isI id)) hkl HXY.out (by unfold isI; simp [hp])
          have HS := Lib.hid hs
          clear hp hs
          go_wp2_with fail
          go_roundw
          case rel => exact ⟨k + 1, v, by omega, by go_num, HF, by rw [HS.out.1]; exact HG⟩
          case measure => simp [intOf]; omega
        · have hb1 : (y != id) = true := by simp [hp]
          have hs := stay_no (p := (isI id)) hkl HXY.out (by unfold isI; simp [hp])
          have HS := Lib.hid hs
          clear hp hs
          go_wp2_with fail
          have hbd : Below wr.heap.size wr (wr.drew.alloc (.cells #[.int .i64 x, .int .i64 y, .int .i64 z] 113)) := (below_drew' (Below.refl _ _)).alloc (Nat.le_refl _) _
          have HBD := Lib.hid hbd
          have HT1 := Lib.hid (yis_one wr.drew x y z 113)
          have HO1 := Lib.hid (HG.out.own.below hbd)
          have HBB := Lib.hid (show o ≤ (wr.drew.alloc (.cells #[.int .i64 x, .int .i64 y, .int .i64 z] 113)).heap.size by have := HG.out.box.lt; have := hbd.size; omega)
          have hlt0 : w.heap.size < wr.heap.size := HF.out.b0.lt
          clear hbd
          go_region_law (refine step_append_run rfl _ _ _ rfl _ _ (by simp [Act.eval]) (by simp [Act.eval]) (app_yis (cap := 1) Try.underlying54 HO1.out HT1.out (fun e => by cases e) HLT.out HBB.out) ?_; intro v2 w2 happ; obtain ⟨a2, n2, cap2, rfl⟩ := happ.form; have HA := Lib.hid happ; obtain ⟨q1, q2, q3⟩ := HG.out.at_ HBD.out happ; have q10 := q1.c0; have q11 := q1.c1; have q12 := q1.c2; have q13 := q1.c3; have q23 := q2 3; clear happ q1 q2 q3)
          all_goals
            have hga := HG.out.app HBD.out HA.out
            have HG3 := Lib.hid hga.1
            have HF3' := Lib.hid (HF.out.step' (hga.2.mono HR3.out))
            clear hga q10 q11 q12 q13 q23
            clear HA
            obtain ⟨w3', hw3⟩ : ∃ w3', w3' = w2.setCell ⟨o, 3, none⟩ (.slice a2 n2 cap2) := ⟨_, rfl⟩
            rw [← hw3] at HG3 HF3' ⊢
            clear hw3
            go_wp2_with fail
            go_roundw
            case rel => exact ⟨k + 1, _, by omega, by go_num, HF3', by rw [HS.out.1]; exact HG3⟩
            case measure => simp [intOf]; omega
      · have hkk : k = l.length := by have := HHL.out; omega
        have hg := HG.out
        rw [hkk, List.take_length] at hg
        obtain ⟨a2, cap2, rfl⟩ := hg.own.shape
        have HE := Lib.hid (fun x0 x1 x2 x3 => HF.out.end_ hg.own HR3.out x0 x1 x2 x3)
        clear hg hkk
        go_wp2_with fail
        refine bodyPost_ret (v := .agg #[.bool up, .int .i64 ep, .int .i64 sq, .slice a2 (stayL (isI id) l).length cap2]) (by simp [results, Try.results60, go_sem, d0, d1, d2, d3]) rfl ?_
        unfold fgtL
        rw [HJ.out]
        exact ⟨⟨a2, cap2, rfl, (HE.out _ _ _ _).1⟩, (HE.out _ _ _ _).2⟩

end Go.Proofs.Ytlcllbdalabciaa.Lnk
namespace Go.Proofs.Ytlcllbdalabciaa.Lnk
open Go.RowKit
open Go.Proofs.Ytlcllbdalabciaa.Kit (append_one)
set_option linter.unusedVariables false

end Go.Proofs.Ytlcllbdalabciaa.Lnk
namespace Go.Proofs.Ytlcllbdalabciaa.Lnk
open Go.RowKit
open Go.Proofs.Ytlcllbdalabciaa.Kit (append_one)
set_option linter.unusedVariables false

set_option maxRecDepth 100000 in
set_option maxHeartbeats 2000000 in
theorem specLateC_any (w : World) (a : Option Addr) (len cap : Nat) (up : Bool) (ep sq : Int) (l : List Y) (now : Int) (h : YIs w.heap.size w a len l) (hlen : len ≤ 1048576) :
    Calls Try.prog 56 #[.agg #[.bool up, .int .i64 ep, .int .i64 sq, .slice a len cap], .int .i64 now] w fun en w' => LandEnd w w' up ep sq (latL up ep sq l now) (latI up ep sq l now) en := by
  obtain ⟨i0, hi, hz0, hz1, hz2⟩ := info_parts infoInt
  have hf := Fr2.two w up ep sq a len cap l h 56 56
  have HHL := Lib.hid h.hlen
  have HF := Lib.hid hf
  have es : ((w.alloc (.cells #[.bool up, .int .i64 ep, .int .i64 sq, .slice a len cap] 56)).alloc (.cells #[.bool false, .int .i64 0, .int .i64 0, .slice none 0 0] 56)).heap.size = w.heap.size + 1 + 1 := by simp
  have hq := ilit ((w.alloc (.cells #[.bool up, .int .i64 ep, .int .i64 sq, .slice a len cap] 56)).alloc (.cells #[.bool false, .int .i64 0, .int .i64 0, .slice none 0 0] 56))
  rw [es] at hq
  have HQ := Lib.hid hq
  have HF := Lib.hid (HF.out.step (bOne _ (.cells #[] 3)))
  clear es hq
  clear h hf
  go_enter Try.func56, Try.ntmps56
  go_wp2_with fail
  refine (specLinkOk_any _ a len cap up ep sq l HF.out.here).mono ?_
  rintro en w3 ⟨rfl, hb3⟩
  have HF3 := Lib.hid (HF.out.step hb3)
  have HQ3 := Lib.hid (HQ.out.below hb3)
  clear hb3 HF HQ
  obtain ⟨⟨c0, c1, c2, c3⟩, ⟨d0, d1, d2, d3⟩, ⟨f0, f1, f2, f3⟩, g3⟩ := HF3.out.cells
  cases hok : lokB up ep sq l with
  | false =>
    have HNO := Lib.hid hok
    clear hok
    go_wp2_with fail
    refine (specCopyC_any _ a len cap up ep sq l HF3.out.here hlen).mono ?_
    rintro en w4 ⟨⟨a1, cap1, rfl, ho4⟩, hb4⟩
    have HF4 := Lib.hid (HF3.out.step hb4)
    have HE := Lib.hid (fun x0 x1 x2 x3 => HF4.out.end_ ho4 HF3.out.b1.lt x0 x1 x2 x3)
    have HQ4 := Lib.hid (HQ3.out.below hb4)
    clear hb4 ho4 c0 c1 c2 c3 d0 d1 d2 d3 f0 f1 f2 f3 g3
    obtain ⟨⟨c0, c1, c2, c3⟩, ⟨d0, d1, d2, d3⟩, ⟨f0, f1, f2, f3⟩, g3⟩ := HF4.out.cells
    go_wp2_with fail
    refine bodyPost_ret (v := .tuple #[.agg #[.bool up, .int .i64 ep, .int .i64 sq, .slice a1 l.length cap1], .slice (some ⟨w.heap.size + 1 + 1, 0, none⟩) 0 0]) (by simp [results, Try.results56, go_sem, d0, d1, d2, d3]) rfl ?_
    unfold latL latI
    rw [HNO.out]
    exact ⟨⟨a1, cap1, some ⟨w.heap.size + 1 + 1, 0, none⟩, 0, rfl, (HE.out _ _ _ _).1, ((((HQ4.out.setLow (by simp) _).setLow (by simp) _).setLow (by simp) _).setLow (by simp) _).base (by omega)⟩, (HE.out _ _ _ _).2⟩
  | true =>
    have HJ := Lib.hid hok
    have HL8 := Lib.hid (lokB_iff.1 hok).len
    clear hok
    go_wp2_with fail
    have HG0 := Lib.hid (g4_start w3 up ep sq)
    have hgl := g4_low w3 up ep sq
    have HF0 := Lib.hid (HF3.out.step hgl)
    have HR3 := Lib.hid HF3.out.b1.lt
    have HQ0 := Lib.hid (HQ3.out.below hgl)
    have HR4 := Lib.hid (show w.heap.size + 1 + 1 < w3.heap.size from (World.ownsRow.lt HQ3.out _ rfl).2)
    clear hgl c0 c1 c2 c3 d0 d1 d2 d3 f0 f1 f2 f3 g3
    obtain ⟨W, hW⟩ : ∃ W, W = (w3.alloc (.cells #[.bool up, .int .i64 ep, .int .i64 sq, .slice (some ⟨w3.heap.size + 1, 0, none⟩) 0 0] 56)).alloc (.cells #[] 113) := ⟨_, rfl⟩
    rw [← hW] at HG0 HF0 ⊢
    rw [← hW] at HQ0
    clear hW
    obtain ⟨o, ho⟩ : ∃ o, o = w3.heap.size := ⟨_, rfl⟩
    rw [← ho] at HG0 HR3 HR4 ⊢
    have HOE := Lib.hid ho
    clear ho
    go_loopw [6, 8] (fun q i wr => ∃ (k : Nat) (v : Value), k ≤ len ∧ i = .int .i64 k ∧ Hid (Fr2 w wr (w.heap.size + 1) up ep sq a len cap l) ∧ Hid (G4 wr o up ep sq v (stayL (isU now) (l.take k))) ∧ Hid (IOwn (w.heap.size + 1 + 1) wr q (idsL (goneL (isU now) (l.take k)))) ∧ Hid (∀ j, q.ownBlock = some j → j ≠ o)) (fun _ i _ => len - (intOf i).toNat)
    case atStart => exact ⟨0, _, by omega, rfl, HF0, HG0, HQ0, Lib.hid (fun j hj => by simp [Value.ownBlock] at hj; have := HR4.out; omega)⟩
    case round =>
      obtain ⟨k, v, hk, rfl, HF, HG, HQ, HQO⟩ := hrel
      obtain ⟨⟨c0, c1, c2, c3⟩, ⟨d0, d1, d2, d3⟩, ⟨f0, f1, f2, f3⟩, g3⟩ := HF.out.cells
      obtain ⟨⟨k0, k1, k2, k3⟩, k4, k5⟩ := HG.out.cells
      by_cases hlt : (k : Int) < (len : Int)
      · have hkl : k < l.length := by have := HHL.out; omega
        obtain ⟨b', off, rfl, hbw, e0, e1, e2⟩ := HF.out.yis.cell k hkl
        have hbw2 : b' < wr.heap.size := by have := HF.out.low.size; omega
        obtain ⟨x, hx⟩ : ∃ x, x = l[k].1 := ⟨_, rfl⟩
        obtain ⟨y, hy⟩ : ∃ y, y = l[k].2.1 := ⟨_, rfl⟩
        obtain ⟨z, hz⟩ : ∃ z, z = l[k].2.2 := ⟨_, rfl⟩
        have HXY := Lib.hid (show l[k] = (x, y, z) by rw [hx, hy, hz])
        rw [← hx] at e0
        rw [← hy] at e1
        rw [← hz] at e2
        clear hx hy hz
        have HLT := Lib.hid (show (stayL (isU now) (l.take k)).length + 1 ≤ 2000000 by have h1 := stayL_len (isU now) (l.take k); have h2 := HL8.out; simp only [List.length_take] at h1; omega)
        by_cases hp : z ≤ now
        · have hb1 : decide (z ≤ now) = true := by simp [hp]
          have hs := stay_yes (p := (isU now)) hkl HXY.out (by unfold isU; simp [hp])
          have HS := Lib.hid hs
          obtain ⟨qa, qc, hqv⟩ := HQ.out.shape
          have HGL := Lib.hid (show (goneL (isU now) (l.take k)).length ≤ 8 by have h1 := goneL_len (isU now) (l.take k); have h2 := HL8.out; simp only [List.length_take] at h1; omega)
          have HQI := Lib.hid (show IOwn (w.heap.size + 1 + 1) wr u6 (idsL (goneL (isU now) (l.take k))) from HQ.out)
          obtain ⟨N, hN⟩ : ∃ N, N = (idsL (goneL (isU now) (l.take k))).length := ⟨_, rfl⟩
          have HNE := Lib.hid hN
          have hown : wr.ownsRow (w.heap.size + 1 + 1) 3 1 u6 N ((idsL (goneL (isU now) (l.take k))).map fun x => .int .i64 x) := by rw [hN]; exact HQ.out
          have HOWN := Lib.hid hown
          have HN8 := Lib.hid (show N ≤ 8 by rw [hN]; simpa [idsL] using HGL.out)
          have HBW := Lib.hid (show w.heap.size + 1 + 1 ≤ wr.heap.size by have := HF.out.b1.lt; omega)
          clear hown hN hqv
          clear hp hs
          go_wp2_with (first | (at_builtin; refine wpList_append_lies _ rfl _ _ 28 rfl (w.heap.size + 1 + 1) 3 i0 _ 1 8 Try.underlying28 hi hz0 hz1 hz2 rfl (by decide) u6 N _ rfl (HOWN.out.alloc _) ⟨wr.heap.size, 0, none⟩ 1 1 [.int .i64 y] rfl rfl (World.news_of_block (cs := #[.int .i64 y]) (t := 3) (fr := (0, 0)) (heap_alloc_new wr _)) (by simp [Value.oneCell']) (by omega) (by have := HN8.out; unfold maxLen; omega) (by have := HN8.out; omega) (by have := HBW.out; simp; omega) (wr.heap.size + 1) (by simp) ?_; intro g cg w5 hown5 hg5 hat5 hlt5; have HO5 := Lib.hid hown5; have HG5 := Lib.hid hg5; have HAT5 := Lib.hid hat5; clear hown5 hg5 hat5 hlt5) | fail)
          have hb5 : Below (w.heap.size + 1 + 1) wr w5 := ((bOne wr (.cells #[.int .i64 y] 3)).mono HBW.out).grown HG5.out (by have := HBW.out; simp; omega) (fun j hj => (World.ownsRow.lt HOWN.out j hj).1)
          have HF5 := Lib.hid (HF.out.step' hb5)
          have HG5' := Lib.hid ((HG.out.below (bOne wr (.cells #[.int .i64 y] 3))).grown HG5.out (fun e => HQO.out o e rfl) (by
            cases hv : v.ownBlock with
            | none => exact .inl rfl
            | some j =>
              refine .inr (fun e => ?_)
              rcases own_sep (by decide) HG.out.own HQI.out with e1 | e1
              · rw [e1] at e; cases e
              · exact e1 (by rw [← e, hv])))
          have HQ5 := Lib.hid (show IOwn (w.heap.size + 1 + 1) w5 (.slice (some ⟨g, 0, none⟩) (N + 1) cg) (idsL (goneL (isU now) (l.take (k + 1)))) by
            rw [HS.out.2]
            have h1 := HO5.out
            have h2 := HNE.out
            unfold IOwn
            unfold idsL at h1 h2 ⊢
            rw [List.map_append, List.length_append, ← h2]
            simpa using h1)
          have HQO5 := Lib.hid (show ∀ j, (Value.slice (some ⟨g, 0, none⟩) (N + 1) cg).ownBlock = some j → j ≠ o from fun j hj => by
            simp only [Value.ownBlock, Option.some.injEq] at hj
            subst hj
            rcases HAT5.out with e1 | e1
            · exact HQO.out g e1
            · have := HG.out.box.lt; omega)
          clear hb5
          go_roundw
          case rel => exact ⟨k + 1, v, by omega, by go_num, HF5, by rw [HS.out.1]; exact HG5', HQ5, HQO5⟩
          case measure => simp [intOf]; omega
        · have hb1 : decide (z ≤ now) = false := by simpa using hp
          have hs := stay_no (p := (isU now)) hkl HXY.out (by unfold isU; simp [hp]; try omega)
          have HS := Lib.hid hs
          clear hp hs
          go_wp2_with fail
          have hbd : Below wr.heap.size wr (wr.drew.alloc (.cells #[.int .i64 x, .int .i64 y, .int .i64 z] 113)) := (below_drew' (Below.refl _ _)).alloc (Nat.le_refl _) _
          have HBD := Lib.hid hbd
          have HT1 := Lib.hid (yis_one wr.drew x y z 113)
          have HO1 := Lib.hid (HG.out.own.below hbd)
          have HBB := Lib.hid (show o ≤ (wr.drew.alloc (.cells #[.int .i64 x, .int .i64 y, .int .i64 z] 113)).heap.size by have := HG.out.box.lt; have := hbd.size; omega)
          have hlt0 : w.heap.size < wr.heap.size := HF.out.b0.lt
          clear hbd
          go_region_law (refine step_append_run rfl _ _ _ rfl _ _ (by simp [Act.eval]) (by simp [Act.eval]) (app_yis (cap := 1) Try.underlying54 HO1.out HT1.out (fun e => by cases e) HLT.out HBB.out) ?_; intro v2 w2 happ; obtain ⟨a2, n2, cap2, rfl⟩ := happ.form; have HA := Lib.hid happ; obtain ⟨q1, q2, q3⟩ := HG.out.at_ HBD.out happ; have q10 := q1.c0; have q11 := q1.c1; have q12 := q1.c2; have q13 := q1.c3; have q23 := q2 3; clear happ q1 q2 q3)
          all_goals
            have hga := HG.out.app HBD.out HA.out
            have HG3 := Lib.hid hga.1
            have HF3' := Lib.hid (HF.out.step' (hga.2.mono HR3.out))
            have HQ3' := Lib.hid (show IOwn (w.heap.size + 1 + 1) (w2.setCell ⟨o, 3, none⟩ (.slice a2 n2 cap2)) u6 (idsL (goneL (isU now) (l.take k))) from
              ((HQ.out.below HBD.out).grown HA.out.2.1 (own_sep (by decide) HO1.out (HQ.out.below HBD.out))).grown (setCell_grown w2 o 3 _) (by
                cases hv : u6.ownBlock with
                | none => exact .inl rfl
                | some j => exact .inr (fun e => HQO.out j hv (by injection e))))
            clear hga q10 q11 q12 q13 q23
            clear HA
            obtain ⟨w3', hw3⟩ : ∃ w3', w3' = w2.setCell ⟨o, 3, none⟩ (.slice a2 n2 cap2) := ⟨_, rfl⟩
            rw [← hw3] at HG3 HF3' ⊢
            rw [← hw3] at HQ3'
            clear hw3
            go_wp2_with fail
            go_roundw
            case rel => exact ⟨k + 1, _, by omega, by go_num, HF3', by rw [HS.out.1]; exact HG3, by rw [HS.out.2]; exact HQ3', HQO⟩
            case measure => simp [intOf]; omega
      · have hkk : k = l.length := by have := HHL.out; omega
        have hg := HG.out
        rw [hkk, List.take_length] at hg
        obtain ⟨a2, cap2, rfl⟩ := hg.own.shape
        have HE := Lib.hid (fun x0 x1 x2 x3 => HF.out.end_ hg.own HR3.out x0 x1 x2 x3)
        have hq := HQ.out
        rw [hkk, List.take_length] at hq
        obtain ⟨a3, cap3, rfl⟩ := hq.shape
        have HQE := Lib.hid (fun x0 x1 x2 x3 => HF.out.endI hq (by omega) x0 x1 x2 x3)
        clear hq
        clear hg hkk
        go_wp2_with fail
        refine bodyPost_ret (v := .tuple #[.agg #[.bool up, .int .i64 ep, .int .i64 sq, .slice a2 (stayL (isU now) l).length cap2], .slice a3 (idsL (goneL (isU now) l)).length cap3]) (by simp [results, Try.results56, go_sem, d0, d1, d2, d3]) rfl ?_
        unfold latL latI
        rw [HJ.out]
        exact ⟨⟨a2, cap2, a3, cap3, rfl, (HE.out _ _ _ _).1, HQE.out _ _ _ _⟩, (HE.out _ _ _ _).2⟩
end Go.Proofs.Ytlcllbdalabciaa.Lnk
