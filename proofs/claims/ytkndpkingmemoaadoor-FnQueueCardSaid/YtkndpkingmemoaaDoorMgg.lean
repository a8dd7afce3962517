/-
  What a right gate's messages are: the walk of the program's test.
  OpenOf: the walks, of the specification and of the program.
  Queues, shares and totals of a right gate: the walks of the program's tests.
  What meets a map of places; totals and letters of a right gate: the walks of the program's tests.
  Letters and links of a right gate: the walks of the program's tests.
  A right gate: the walk of the program's GateOk.
-/
import Derived.Test.YtkndpkingmemoaaDoorMgf
import Derived.Test.YtkndpkingmemoaaDoorMgb
import Derived.Test.YtkndpkingmemoaaDoorMge
import Derived.Test.YtkndpkingmemoaaDoorMga
import Derived.Shelf.Abstract
import Derived.Test.YtkndpkingmemoaaDoorMgc
namespace Go.Proofs.YtkndpkingmemoaaDoor.Gat
open Go.RowKit
open Lnk (bOne bAfter IOwn IIs low_after low_alloc)
set_option linter.unusedVariables false

/-- a test's answer, that tells whether P holds -/
def BEnd (w w' : World) (P : Prop) (e : Ending) : Prop := (∃ x : Bool, e = .returned (.bool x) ∧ (x = true ↔ P)) ∧ Below w.heap.size w w'
theorem bend_no {w w' : World} {P : Prop} (h : ¬ P) (hb : Below w.heap.size w w') : BEnd w w' P (.returned (.bool false)) := ⟨⟨false, rfl, by simp [h]⟩, hb⟩
theorem bend_yes {w w' : World} {P : Prop} (h : P) (hb : Below w.heap.size w w') : BEnd w w' P (.returned (.bool true)) := ⟨⟨true, rfl, by simp [h]⟩, hb⟩
/-- the id of the message ahead -/
def ahead (l : List Ev) : Nat → Int
  | 0 => 0
  | k + 1 => (l.getD k ev0).i
def EvGood (de la nw p : Int) (e : Ev) : Prop := Evt.EOk e.i e.d e.c e.b.size e.a e.t e.r e.n e.s ∧ p < e.i ∧ e.i ≤ la ∧ e.d ≤ de ∧ e.a ≤ nw
def evsP (de la nw : Int) (l : List Ev) : Prop := ∀ k, (h : k < l.length) → EvGood de la nw (ahead l k) l[k]
theorem ahead_next {l : List Ev} {j : Nat} (h : j < l.length) : ahead l (j + 1) = l[j].i := by
  show (l.getD j ev0).i = _
  rw [List.getD_eq_getElem?_getD, List.getElem?_eq_getElem h]
  rfl

set_option maxRecDepth 100000 in
set_option maxHeartbeats 4000000 in
theorem implEvents_any (w : World) (de qu wi ti qa bu le pb pc pj pt nw la : Int) (ea : Option Addr) (en ec : Nat) (ka : Option Addr) (kn kc : Nat) (tu : Int) (fa : Option Addr) (fn fc : Nat) (ra : Option Addr) (rn rc : Nat) (tk ac dr : Int) (E : List Ev) (K : List Lk) (F R : List Int) (h : GIs w.heap.size w ea en ka kn fa fn ra rn E K F R) :
    Calls Tryd.prog 28 #[.agg #[.int .i64 de, .int .i64 qu, .int .i64 wi, .int .i64 ti, .int .i64 qa, .int .i64 bu, .int .i64 le, .int .i64 pb, .int .i64 pc, .int .i64 pj, .int .i64 pt, .int .i64 nw, .int .i64 la, .slice ea en ec, .slice ka kn kc, .int .i64 tu, .slice fa fn fc, .slice ra rn rc, .int .i64 tk, .int .i64 ac, .int .i64 dr]] w fun e w' => BEnd w w' (en ≤ 60 ∧ evsP de la nw E) e := by
  obtain ⟨W0, hW0⟩ : ∃ W, W = w.alloc (.cells #[.int .i64 de, .int .i64 qu, .int .i64 wi, .int .i64 ti, .int .i64 qa, .int .i64 bu, .int .i64 le, .int .i64 pb, .int .i64 pc, .int .i64 pj, .int .i64 pt, .int .i64 nw, .int .i64 la, .slice ea en ec, .slice ka kn kc, .int .i64 tu, .slice fa fn fc, .slice ra rn rc, .int .i64 tk, .int .i64 ac, .int .i64 dr] 33) := ⟨_, rfl⟩
  have HA : Hid (Box W0 w.heap.size 33 [.int .i64 de, .int .i64 qu, .int .i64 wi, .int .i64 ti, .int .i64 qa, .int .i64 bu, .int .i64 le, .int .i64 pb, .int .i64 pc, .int .i64 pj, .int .i64 pt, .int .i64 nw, .int .i64 la, .slice ea en ec, .slice ka kn kc, .int .i64 tu, .slice fa fn fc, .slice ra rn rc, .int .i64 tk, .int .i64 ac, .int .i64 dr]) := Lib.hid (by rw [hW0]; exact Box.new w [.int .i64 de, .int .i64 qu, .int .i64 wi, .int .i64 ti, .int .i64 qa, .int .i64 bu, .int .i64 le, .int .i64 pb, .int .i64 pc, .int .i64 pj, .int .i64 pt, .int .i64 nw, .int .i64 la, .slice ea en ec, .slice ka kn kc, .int .i64 tu, .slice fa fn fc, .slice ra rn rc, .int .i64 tk, .int .i64 ac, .int .i64 dr] 33)
  have HL : Hid (Below w.heap.size w W0) := Lib.hid (by rw [hW0]; exact bOne _ _)
  have HT := Lib.hid (h.ev)
  have HN := Lib.hid HT.out.row.hlen
  have hle := HT.out.row.le
  unfold maxLen at hle
  have HWE := Lib.hid hW0
  clear h hW0
  have c13 := HA.out.cell 13 _ rfl
  by_cases hbig : 60 < en
  · have hb1 : (60 : Int) < (en : Int) := by omega
    have HBG := Lib.hid hbig
    clear hbig
    go_enter Tryd.func28, Tryd.ntmps28
    go_upto_region 1 with fail
    rw [← HWE.out]
    go_wp2_with fail
    go_ret
    exact bend_no (fun h => by have := HBG.out; omega) HL.out
  have hb1 : ¬ (60 : Int) < (en : Int) := by omega
  have HBG := Lib.hid hbig
  clear hbig
  go_enter Tryd.func28, Tryd.ntmps28
  go_upto_region 1 with fail
  rw [← HWE.out]
  go_wp2_with fail
  clear c13
  go_loopw [3, 13] (fun av i wr => ∃ j : Nat, j ≤ en ∧ i = .int .i64 j ∧ av = .int .i64 (ahead E j) ∧ Hid (∀ k, (h : k < E.length) → k < j → EvGood de la nw (ahead E k) E[k]) ∧ Hid (Below w.heap.size w wr) ∧ Hid (Box wr w.heap.size 33 [.int .i64 de, .int .i64 qu, .int .i64 wi, .int .i64 ti, .int .i64 qa, .int .i64 bu, .int .i64 le, .int .i64 pb, .int .i64 pc, .int .i64 pj, .int .i64 pt, .int .i64 nw, .int .i64 la, .slice ea en ec, .slice ka kn kc, .int .i64 tu, .slice fa fn fc, .slice ra rn rc, .int .i64 tk, .int .i64 ac, .int .i64 dr])) (fun _ i _ => en - (intOf i).toNat)
  case atStart => exact ⟨0, by omega, rfl, rfl, Lib.hid (fun k _ hk => by omega), HL, HA⟩
  case round =>
    obtain ⟨j, hj, rfl, rfl, HG, HB, HX0⟩ := hrel
    by_cases hlt : (j : Int) < (en : Int)
    · have hjl : j < E.length := by have := HN.out; omega
      obtain ⟨b', off, i', d', c', bd', a', t', r', n', s', rfl, hb', hlj, hbd', x0, x1, x2, x3, x4, x5, x6, x7, x8⟩ := (HT.out.below HB.out).at j hjl
      have HJ := Lib.hid hlj
      have HBD := Lib.hid hbd'
      have HAH := Lib.hid (ahead_next hjl)
      obtain ⟨p, hp⟩ : ∃ p, p = ahead E j := ⟨_, rfl⟩
      rw [← hp]
      have HP := Lib.hid hp
      have HNO := Lib.hid (show ¬ EvGood de la nw p ⟨i', d', c', bd', a', t', r', n', s'⟩ → ¬ (en ≤ 60 ∧ evsP de la nw E) from fun hn h => hn (by have := h.2 j hjl; rwa [hlj, ← hp] at this))
      have HB1 := Lib.hid (bOne wr (.cells #[.int .i64 i', .int .i64 d', .int .i64 c', .string bd', .int .i64 a', .int .i64 t', .int .i64 r', .int .i64 n', .int .i64 s'] 55))
      have HE := Lib.hid (Evt.B9.new wr i' d' c' bd' a' t' r' n' s' 55)
      have HL1 := Lib.hid (bAfter HB.out HB1.out HB.out.size)
      have HX1 := Lib.hid (HX0.out.below HB1.out)
      clear hlj hb' hbd' hp
      go_wp2_with fail
      refine (Evt.implOk_any i' d' c' bd' a' t' r' n' s' _ HBD.out).mono ?_
      rintro e w2 ⟨rfl, hb2⟩
      have HL2 := Lib.hid (bAfter HL1.out hb2 HL1.out.size)
      have HX2 := Lib.hid (HX1.out.below hb2)
      have HE2 := Lib.hid (HE.out.below hb2)
      clear hb2 x0 x1 x2 x3 x4 x5 x6 x7 x8 HB1 HE HL1 HX1
      obtain ⟨y0, y1, y2, y3, y4, y5, y6, y7, y8, ylt⟩ := HE2.out
      have c0 := HX2.out.cell 0 _ rfl
      have c11 := HX2.out.cell 11 _ rfl
      have c12 := HX2.out.cell 12 _ rfl
      cases hok : Evt.eokB i' d' c' bd'.size a' t' r' n' s' with
      | false =>
        have HNP := Lib.hid (HNO.out (fun h => by have h1 : Evt.eokB i' d' c' bd'.size a' t' r' n' s' = true := Evt.eokB_yes h.1; rw [hok] at h1; cases h1))
        clear hok
        go_wp2_with fail
        go_ret
        exact bend_no HNP.out HL2.out
      | true =>
      have HOK := Lib.hid (show Evt.EOk i' d' c' bd'.size a' t' r' n' s' from of_decide_eq_true hok)
      clear hok
      by_cases h1 : i' ≤ p
      · have HNP := Lib.hid (HNO.out (fun h => by have := h.2; dsimp only at this; omega))
        go_wp2_with fail
        go_ret
        exact bend_no HNP.out HL2.out
      by_cases h2 : la < i'
      · have HNP := Lib.hid (HNO.out (fun h => by have := h.2; dsimp only at this; omega))
        go_wp2_with fail
        go_ret
        exact bend_no HNP.out HL2.out
      by_cases h3 : de < d'
      · have HNP := Lib.hid (HNO.out (fun h => by have := h.2; dsimp only at this; omega))
        go_wp2_with fail
        go_ret
        exact bend_no HNP.out HL2.out
      by_cases h4 : nw < a'
      · have HNP := Lib.hid (HNO.out (fun h => by have := h.2; dsimp only at this; omega))
        go_wp2_with fail
        go_ret
        exact bend_no HNP.out HL2.out
      have HGD := Lib.hid (show EvGood de la nw p ⟨i', d', c', bd', a', t', r', n', s'⟩ from ⟨HOK.out, by dsimp only; omega, by dsimp only; omega, by dsimp only; omega, by dsimp only; omega⟩)
      have HAL := Lib.hid (show Hid (∀ k, (h : k < E.length) → k < j + 1 → EvGood de la nw (ahead E k) E[k]) from Lib.hid (fun k hk hkj => by
        rcases (show k < j ∨ k = j by omega) with h | rfl
        · exact HG.out k hk h
        · rw [HJ.out, ← HP.out]; exact HGD.out))
      go_wp2_with fail
      go_roundw
      case rel => exact ⟨j + 1, by omega, by go_num, by rw [HAH.out, HJ.out], HAL.out, HL2, HX2⟩
      case measure => simp [intOf]; omega
    · have hjl : j = E.length := by have := HN.out; omega
      have HY := Lib.hid (show en ≤ 60 ∧ evsP de la nw E from ⟨by have := HBG.out; omega, fun k hk => HG.out k hk (by omega)⟩)
      clear hjl
      go_wp2_with fail
      go_ret
      exact bend_yes HY.out HB.out

end Go.Proofs.YtkndpkingmemoaaDoor.Gat
namespace Go.Proofs.YtkndpkingmemoaaDoor.Gat
open Go.RowKit
open Lnk (bOne bAfter IOwn IIs below_keep below_drew' bcell low_after low_alloc)
set_option linter.unusedVariables false

set_option maxRecDepth 100000 in
set_option maxHeartbeats 4000000 in
theorem specOpenOf_any (w : World) (de qu wi ti qa bu le pb pc pj pt nw la : Int) (ea : Option Addr) (en ec : Nat) (ka : Option Addr) (kn kc : Nat) (tu : Int) (fa : Option Addr) (fn fc : Nat) (ra : Option Addr) (rn rc : Nat) (tk ac dr : Int) (E : List Ev) (K : List Lk) (F R : List Int) (d : Int) (h : GIs w.heap.size w ea en ka kn fa fn ra rn E K F R) :
    Calls Tryd.prog 9 #[.agg #[.int .i64 de, .int .i64 qu, .int .i64 wi, .int .i64 ti, .int .i64 qa, .int .i64 bu, .int .i64 le, .int .i64 pb, .int .i64 pc, .int .i64 pj, .int .i64 pt, .int .i64 nw, .int .i64 la, .slice ea en ec, .slice ka kn kc, .int .i64 tu, .slice fa fn fc, .slice ra rn rc, .int .i64 tk, .int .i64 ac, .int .i64 dr], .int .i64 d] w fun e w' => e = .returned (.int .i64 (openN d E)) ∧ Below w.heap.size w w' := by
  obtain ⟨W0, hW0⟩ : ∃ W, W = w.alloc (.cells #[.int .i64 de, .int .i64 qu, .int .i64 wi, .int .i64 ti, .int .i64 qa, .int .i64 bu, .int .i64 le, .int .i64 pb, .int .i64 pc, .int .i64 pj, .int .i64 pt, .int .i64 nw, .int .i64 la, .slice ea en ec, .slice ka kn kc, .int .i64 tu, .slice fa fn fc, .slice ra rn rc, .int .i64 tk, .int .i64 ac, .int .i64 dr] 33) := ⟨_, rfl⟩
  have hA : Box W0 w.heap.size 33 [.int .i64 de, .int .i64 qu, .int .i64 wi, .int .i64 ti, .int .i64 qa, .int .i64 bu, .int .i64 le, .int .i64 pb, .int .i64 pc, .int .i64 pj, .int .i64 pt, .int .i64 nw, .int .i64 la, .slice ea en ec, .slice ka kn kc, .int .i64 tu, .slice fa fn fc, .slice ra rn rc, .int .i64 tk, .int .i64 ac, .int .i64 dr] := by rw [hW0]; exact Box.new w [.int .i64 de, .int .i64 qu, .int .i64 wi, .int .i64 ti, .int .i64 qa, .int .i64 bu, .int .i64 le, .int .i64 pb, .int .i64 pc, .int .i64 pj, .int .i64 pt, .int .i64 nw, .int .i64 la, .slice ea en ec, .slice ka kn kc, .int .i64 tu, .slice fa fn fc, .slice ra rn rc, .int .i64 tk, .int .i64 ac, .int .i64 dr] 33
  have HL : Hid (Below w.heap.size w W0) := Lib.hid (by rw [hW0]; exact bOne _ _)
  have HT := Lib.hid (h.here HL.out)
  have hle := h.ev.row.le
  have hN := h.ev.row.hlen
  unfold maxLen at hle
  have HSUM := Lib.hid (openN_eq d E)
  have HSS := Lib.hid (show Ending.returned (Value.int IntKind.i64 (IntKind.i64.wrap ((cntN d 0 E : Int) + (cntN d 1 E : Int)))) = Ending.returned (Value.int IntKind.i64 ((cntN d 0 E + cntN d 1 E : Nat) : Int)) by
    have h1 := openN_eq d E
    have h2 := openN_le d E
    rw [IntWalk.i64_in _ (by omega)]
    simp)
  have HWE := Lib.hid hW0
  clear h hW0 hN hle
  go_enter Tryd.func9, Tryd.ntmps9
  go_wp2_with fail
  rw [← HWE.out]
  have HQ := Lib.hid (show Below W0.heap.size W0 W0.drew from below_drew' (Below.refl _ _))
  refine wp_region_held_drew (S := fun w' => Box w' w.heap.size 33 [.int .i64 de, .int .i64 qu, .int .i64 wi, .int .i64 ti, .int .i64 qa, .int .i64 bu, .int .i64 le, .int .i64 pb, .int .i64 pc, .int .i64 pj, .int .i64 pt, .int .i64 nw, .int .i64 la, .slice ea en ec, .slice ka kn kc, .int .i64 tu, .slice fa fn fc, .slice ra rn rc, .int .i64 tk, .int .i64 ac, .int .i64 dr]) (by kernel_rfl) (hA.below HQ.out) (fun hHeld => ?_)
  clear hA
  refine wpAnyH_take (i := 0) (oi := { dst := some _, op := _, type := _, pos := _, after := _, guard := _ }) (v := ?_) rfl (by kernel_rfl) (by kernel_rfl) (by kernel_rfl) (fun _ _ _ h => h) ?_ (by with_reducible assumption) ?_
  rotate_left 1
  focus (refine Or.inl ⟨by rfl, ?_⟩; intro wq hSw; refine exec_load_box ?_ 33 ?_ ?_ hSw _ Tryd.underlying33 sizeGate; rotate_left 1; rfl; rfl)
  try simp only [Act.put, List.setIfInBounds_toArray, List.set_cons_zero, List.set_cons_succ]
  refine wpAnyH_take (i := 1) (oi := { dst := some _, op := _, type := _, pos := _, after := _, guard := _ }) (v := ?_) rfl (by kernel_rfl) (by kernel_rfl) (by kernel_rfl) (fun _ _ _ h => h) ?_ (by with_reducible assumption) ?_
  rotate_left 1
  focus (refine Or.inl ⟨by rfl, ?_⟩; intro wq hSw; go_simp; try with_reducible rfl)
  try simp only [Act.put, List.setIfInBounds_toArray, List.set_cons_zero, List.set_cons_succ]
  refine wpAnyH_take (i := 3) (oi := { dst := some _, op := _, type := _, pos := _, after := _, guard := _ }) (v := ?_) rfl (by kernel_rfl) (by kernel_rfl) (by kernel_rfl) (fun _ _ _ h => h) ?_ (by with_reducible assumption) ?_
  rotate_left 1
  focus (refine Or.inl ⟨by rfl, ?_⟩; intro wq hSw; refine exec_load_box ?_ 33 ?_ ?_ hSw _ Tryd.underlying33 sizeGate; rotate_left 1; rfl; rfl)
  try simp only [Act.put, List.setIfInBounds_toArray, List.set_cons_zero, List.set_cons_succ]
  refine wpAnyH_take (i := 4) (oi := { dst := some _, op := _, type := _, pos := _, after := _, guard := _ }) (v := ?_) rfl (by kernel_rfl) (by kernel_rfl) (by kernel_rfl) (fun _ _ _ h => h) ?_ (by with_reducible assumption) ?_
  rotate_left 1
  focus (refine Or.inl ⟨by rfl, ?_⟩; intro wq hSw; go_simp; try with_reducible rfl)
  try simp only [Act.put, List.setIfInBounds_toArray, List.set_cons_zero, List.set_cons_succ]
  refine wpAnyH_ready (rs := [2]) (by kernel_rfl) (by simp) ?_
  refine AllReadyH.cons rfl (fun KA hKA => ?_) AllReadyH.nil
  go_simp
  refine (count_any _ de qu wi ti qa bu le pb pc pj pt nw la ea en ec ka kn kc tu fa fn fc ra rn rc tk ac dr E K F R d 0 (HT.out.here HQ.out)).mono ?_
  rintro e wKA ⟨rfl, hb⟩
  have HBKA := Lib.hid (hHeld.below hb)
  have HQ := Lib.hid (low_after HQ.out hb)
  clear hb hHeld
  dsimp only
  refine hKA.out _ _ (HBKA.out) (fun hHeld => ?_)
  clear hKA
  try simp only [Act.put, List.setIfInBounds_toArray, List.set_cons_zero, List.set_cons_succ]
  refine wpAnyH_ready (rs := [5]) (by kernel_rfl) (by simp) ?_
  refine AllReadyH.cons rfl (fun KB hKB => ?_) AllReadyH.nil
  go_simp
  refine (count_any _ de qu wi ti qa bu le pb pc pj pt nw la ea en ec ka kn kc tu fa fn fc ra rn rc tk ac dr E K F R d 1 (HT.out.here HQ.out)).mono ?_
  rintro e wKB ⟨rfl, hb⟩
  have HBKB := Lib.hid (hHeld.below hb)
  have HQ := Lib.hid (low_after HQ.out hb)
  clear hb hHeld
  dsimp only
  refine hKB.out _ _ (HBKB.out) (fun hHeld => ?_)
  clear hKB
  try simp only [Act.put, List.setIfInBounds_toArray, List.set_cons_zero, List.set_cons_succ]
  refine wpAnyH_take (i := 6) (oi := { dst := some _, op := _, type := _, pos := _, after := _, guard := _ }) (v := ?_) rfl (by kernel_rfl) (by kernel_rfl) (by kernel_rfl) (fun _ _ _ h => h) ?_ (by with_reducible assumption) ?_
  rotate_left 1
  focus (refine Or.inl ⟨by rfl, ?_⟩; intro wq hSw; go_simp; try with_reducible rfl)
  try simp only [Act.put, List.setIfInBounds_toArray, List.set_cons_zero, List.set_cons_succ]
  refine wpAnyH_take (i := 7) (oi := { dst := some _, op := _, type := _, pos := _, after := _, guard := _ }) (v := ?_) rfl (by kernel_rfl) (by kernel_rfl) (by kernel_rfl) (fun _ _ _ h => h) ?_ (by with_reducible assumption) ?_
  rotate_left 1
  focus (refine Or.inl ⟨by rfl, ?_⟩; intro wq hSw; go_simp; try with_reducible rfl)
  try simp only [Act.put, List.setIfInBounds_toArray, List.set_cons_zero, List.set_cons_succ]
  refine wpAnyH_done (by kernel_rfl) ?_ _
  go_wp2_with fail
  go_ret
  exact ⟨by rw [HSUM.out]; exact HSS.out, low_after HL.out HQ.out⟩

set_option maxRecDepth 100000 in
set_option maxHeartbeats 4000000 in
theorem implOpenOf_any (w : World) (de qu wi ti qa bu le pb pc pj pt nw la : Int) (ea : Option Addr) (en ec : Nat) (ka : Option Addr) (kn kc : Nat) (tu : Int) (fa : Option Addr) (fn fc : Nat) (ra : Option Addr) (rn rc : Nat) (tk ac dr : Int) (E : List Ev) (K : List Lk) (F R : List Int) (d : Int) (h : GIs w.heap.size w ea en ka kn fa fn ra rn E K F R) :
    Calls Tryd.prog 16 #[.agg #[.int .i64 de, .int .i64 qu, .int .i64 wi, .int .i64 ti, .int .i64 qa, .int .i64 bu, .int .i64 le, .int .i64 pb, .int .i64 pc, .int .i64 pj, .int .i64 pt, .int .i64 nw, .int .i64 la, .slice ea en ec, .slice ka kn kc, .int .i64 tu, .slice fa fn fc, .slice ra rn rc, .int .i64 tk, .int .i64 ac, .int .i64 dr], .int .i64 d] w fun e w' => e = .returned (.int .i64 (openN d E)) ∧ Below w.heap.size w w' := by
  obtain ⟨W0, hW0⟩ : ∃ W, W = w.alloc (.cells #[.int .i64 de, .int .i64 qu, .int .i64 wi, .int .i64 ti, .int .i64 qa, .int .i64 bu, .int .i64 le, .int .i64 pb, .int .i64 pc, .int .i64 pj, .int .i64 pt, .int .i64 nw, .int .i64 la, .slice ea en ec, .slice ka kn kc, .int .i64 tu, .slice fa fn fc, .slice ra rn rc, .int .i64 tk, .int .i64 ac, .int .i64 dr] 33) := ⟨_, rfl⟩
  have HA : Hid (Box W0 w.heap.size 33 [.int .i64 de, .int .i64 qu, .int .i64 wi, .int .i64 ti, .int .i64 qa, .int .i64 bu, .int .i64 le, .int .i64 pb, .int .i64 pc, .int .i64 pj, .int .i64 pt, .int .i64 nw, .int .i64 la, .slice ea en ec, .slice ka kn kc, .int .i64 tu, .slice fa fn fc, .slice ra rn rc, .int .i64 tk, .int .i64 ac, .int .i64 dr]) := Lib.hid (by rw [hW0]; exact Box.new w [.int .i64 de, .int .i64 qu, .int .i64 wi, .int .i64 ti, .int .i64 qa, .int .i64 bu, .int .i64 le, .int .i64 pb, .int .i64 pc, .int .i64 pj, .int .i64 pt, .int .i64 nw, .int .i64 la, .slice ea en ec, .slice ka kn kc, .int .i64 tu, .slice fa fn fc, .slice ra rn rc, .int .i64 tk, .int .i64 ac, .int .i64 dr] 33)
  have HL : Hid (Below w.heap.size w W0) := Lib.hid (by rw [hW0]; exact bOne _ _)
  have HT := Lib.hid (h.ev)
  have HN := Lib.hid HT.out.row.hlen
  have hle := HT.out.row.le
  unfold maxLen at hle
  have HWE := Lib.hid hW0
  clear h hW0
  have c13 := HA.out.cell 13 _ rfl
  go_enter Tryd.func16, Tryd.ntmps16
  go_wp2_with fail
  rw [← HWE.out]
  clear c13
  go_loopw [5, 11] (fun nv i wr => ∃ j : Nat, j ≤ en ∧ i = .int .i64 j ∧ nv = .int .i64 (openN d (E.take j)) ∧ Hid (Below w.heap.size w wr) ∧ Hid (Box wr w.heap.size 33 [.int .i64 de, .int .i64 qu, .int .i64 wi, .int .i64 ti, .int .i64 qa, .int .i64 bu, .int .i64 le, .int .i64 pb, .int .i64 pc, .int .i64 pj, .int .i64 pt, .int .i64 nw, .int .i64 la, .slice ea en ec, .slice ka kn kc, .int .i64 tu, .slice fa fn fc, .slice ra rn rc, .int .i64 tk, .int .i64 ac, .int .i64 dr])) (fun _ i _ => en - (intOf i).toNat)
  case atStart => exact ⟨0, by omega, rfl, rfl, HL, HA⟩
  case round =>
    obtain ⟨j, hj, rfl, rfl, HB, HX0⟩ := hrel
    by_cases hlt : (j : Int) < (en : Int)
    · have hjl : j < E.length := by have := HN.out; omega
      obtain ⟨b', off, i', d', c', bd', a', t', r', n', s', rfl, hb', hlj, hbd', x0, x1, x2, x3, x4, x5, x6, x7, x8⟩ := (HT.out.below HB.out).at j hjl
      have HX := Lib.hid (cnt_next (p := isO d) hjl)
      have HJ := Lib.hid (show isO d E[j] = ((d' == d) && Evt.openB s') by rw [hlj]; rfl)
      have HM := Lib.hid (openN_le d (E.take j))
      have HK := Lib.hid (List.length_take_le j E)
      clear hlj
      obtain ⟨m, hm⟩ : ∃ m, m = openN d (E.take j) := ⟨_, rfl⟩
      rw [← hm]
      have HMM := Lib.hid hm
      have hmb : m ≤ j := by have := HM.out; rw [← hm] at this; exact Nat.le_trans this HK.out
      clear hm hb'
      have HB1 := Lib.hid (bOne wr (.cells #[.int .i64 i', .int .i64 d', .int .i64 c', .string bd', .int .i64 a', .int .i64 t', .int .i64 r', .int .i64 n', .int .i64 s'] 55))
      have HE := Lib.hid (Evt.B9.new wr i' d' c' bd' a' t' r' n' s' 55)
      have HL1 := Lib.hid (bAfter HB.out HB1.out HB.out.size)
      have HX1 := Lib.hid (HX0.out.below HB1.out)
      cases h1 : (d' == d) with
      | false =>
          have HC := Lib.hid (show Value.int IntKind.i64 (m : Int) = Value.int IntKind.i64 (openN d (E.take (j + 1)) : Int) by
            have h := HX.out
            rw [HJ.out, h1] at h
            rw [HMM.out, show openN d (E.take (j + 1)) = openN d (E.take j) by unfold openN; rw [h]; simp])
          have HLN := HL1
          have HAN := HX1
          go_wp2_with fail
          go_roundw
          case rel => exact ⟨j + 1, by omega, by go_num, HC.out, HLN, HAN⟩
          case measure => simp [intOf]; omega
      | true =>
        go_wp2_with fail
        refine (Evt.msg_any i' d' c' bd' a' t' r' n' s' _).mono ?_
        rintro e w2 ⟨rfl, hb2⟩
        have HL2 := Lib.hid (bAfter HL1.out hb2 HL1.out.size)
        have HX2 := Lib.hid (HX1.out.below hb2)
        clear hb2
        go_wp2_with fail
        refine (Evt.open_any a' t' n' s' _).mono ?_
        rintro e w3 ⟨rfl, hb3⟩
        have HLN := Lib.hid (bAfter HL2.out hb3 HL2.out.size)
        have HAN := Lib.hid (HX2.out.below hb3)
        clear hb3 x0 x1 x2 x3 x4 x5 x6 x7 x8
        cases h2 : Evt.openB s' with
        | false =>
          have HC := Lib.hid (show Value.int IntKind.i64 (m : Int) = Value.int IntKind.i64 (openN d (E.take (j + 1)) : Int) by
            have h := HX.out
            rw [HJ.out, h1, h2] at h
            rw [HMM.out, show openN d (E.take (j + 1)) = openN d (E.take j) by unfold openN; rw [h]; simp])
          go_wp2_with fail
          go_roundw
          case rel => exact ⟨j + 1, by omega, by go_num, HC.out, HLN, HAN⟩
          case measure => simp [intOf]; omega
        | true =>
          have HC := Lib.hid (show Value.int IntKind.i64 ((m : Int) + 1) = Value.int IntKind.i64 (openN d (E.take (j + 1)) : Int) by
            have h := HX.out
            rw [HJ.out, h1, h2] at h
            rw [HMM.out, show openN d (E.take (j + 1)) = openN d (E.take j) + 1 by unfold openN; rw [h]; simp]
            simp)
          go_wp2_with fail
          go_roundw
          case rel => exact ⟨j + 1, by omega, by go_num, HC.out, HLN, HAN⟩
          case measure => simp [intOf]; omega
    · have hjl : j = E.length := by have := HN.out; omega
      have HJ := Lib.hid hjl
      clear hjl
      go_wp2_with fail
      go_ret
      exact ⟨by rw [HJ.out, List.take_length]; rfl, HB.out⟩

end Go.Proofs.YtkndpkingmemoaaDoor.Gat
namespace Go.Proofs.YtkndpkingmemoaaDoor.Gat
open Go.RowKit
open Lnk (bOne bAfter IOwn IIs below_keep below_drew' low_after low_alloc)
set_option linter.unusedVariables false

def quP (de qu : Int) (l : List Ev) : Prop := ∀ k : Nat, (k : Int) < de → (openN ((k : Int) + 1) l : Int) ≤ qu
def shP (de tu : Int) (fn : Nat) (F : List Int) : Prop := 0 ≤ tu ∧ tu < de ∧ (fn : Int) = de ∧ ∀ x ∈ F, 0 ≤ x ∧ x ≤ 1000
def toP (en : Nat) (tk ac dr : Int) : Prop := (0 ≤ tk ∧ tk ≤ 9999) ∧ (0 ≤ ac ∧ ac ≤ 9999) ∧ (0 ≤ dr ∧ dr ≤ 9999) ∧ tk = (en : Int) + ac + dr

set_option maxRecDepth 100000 in
set_option maxHeartbeats 4000000 in
theorem implQueues_any (w : World) (de qu wi ti qa bu le pb pc pj pt nw la : Int) (ea : Option Addr) (en ec : Nat) (ka : Option Addr) (kn kc : Nat) (tu : Int) (fa : Option Addr) (fn fc : Nat) (ra : Option Addr) (rn rc : Nat) (tk ac dr : Int) (E : List Ev) (K : List Lk) (F R : List Int) (hde : de ≤ 1000) (h : GIs w.heap.size w ea en ka kn fa fn ra rn E K F R) :
    Calls Tryd.prog 29 #[.agg #[.int .i64 de, .int .i64 qu, .int .i64 wi, .int .i64 ti, .int .i64 qa, .int .i64 bu, .int .i64 le, .int .i64 pb, .int .i64 pc, .int .i64 pj, .int .i64 pt, .int .i64 nw, .int .i64 la, .slice ea en ec, .slice ka kn kc, .int .i64 tu, .slice fa fn fc, .slice ra rn rc, .int .i64 tk, .int .i64 ac, .int .i64 dr]] w fun e w' => BEnd w w' (quP de qu E) e := by
  obtain ⟨W0, hW0⟩ : ∃ W, W = w.alloc (.cells #[.int .i64 de, .int .i64 qu, .int .i64 wi, .int .i64 ti, .int .i64 qa, .int .i64 bu, .int .i64 le, .int .i64 pb, .int .i64 pc, .int .i64 pj, .int .i64 pt, .int .i64 nw, .int .i64 la, .slice ea en ec, .slice ka kn kc, .int .i64 tu, .slice fa fn fc, .slice ra rn rc, .int .i64 tk, .int .i64 ac, .int .i64 dr] 33) := ⟨_, rfl⟩
  have HA : Hid (Box W0 w.heap.size 33 [.int .i64 de, .int .i64 qu, .int .i64 wi, .int .i64 ti, .int .i64 qa, .int .i64 bu, .int .i64 le, .int .i64 pb, .int .i64 pc, .int .i64 pj, .int .i64 pt, .int .i64 nw, .int .i64 la, .slice ea en ec, .slice ka kn kc, .int .i64 tu, .slice fa fn fc, .slice ra rn rc, .int .i64 tk, .int .i64 ac, .int .i64 dr]) := Lib.hid (by rw [hW0]; exact Box.new w [.int .i64 de, .int .i64 qu, .int .i64 wi, .int .i64 ti, .int .i64 qa, .int .i64 bu, .int .i64 le, .int .i64 pb, .int .i64 pc, .int .i64 pj, .int .i64 pt, .int .i64 nw, .int .i64 la, .slice ea en ec, .slice ka kn kc, .int .i64 tu, .slice fa fn fc, .slice ra rn rc, .int .i64 tk, .int .i64 ac, .int .i64 dr] 33)
  have HL : Hid (Below w.heap.size w W0) := Lib.hid (by rw [hW0]; exact bOne _ _)
  have HWE := Lib.hid hW0
  have c0 := HA.out.cell 0 _ rfl
  have HT := Lib.hid h
  clear h hW0
  go_enter Tryd.func29, Tryd.ntmps29
  go_upto_region 1 with fail
  rw [← HWE.out]
  go_wp2_with fail
  clear c0
  go_loopw [7] (fun i wr => ∃ j : Nat, i = .int .i64 j ∧ ((j : Int) ≤ de ∨ j = 0) ∧ Hid (∀ k : Nat, k < j → (openN ((k : Int) + 1) E : Int) ≤ qu) ∧ Hid (Below w.heap.size w wr) ∧ Hid (Box wr w.heap.size 33 [.int .i64 de, .int .i64 qu, .int .i64 wi, .int .i64 ti, .int .i64 qa, .int .i64 bu, .int .i64 le, .int .i64 pb, .int .i64 pc, .int .i64 pj, .int .i64 pt, .int .i64 nw, .int .i64 la, .slice ea en ec, .slice ka kn kc, .int .i64 tu, .slice fa fn fc, .slice ra rn rc, .int .i64 tk, .int .i64 ac, .int .i64 dr])) (fun i _ => (de - intOf i).toNat)
  case atStart => exact ⟨0, rfl, .inr rfl, Lib.hid (fun k hk => by omega), HL, HA⟩
  case round =>
    obtain ⟨j, rfl, hj, HQ, HB, HX⟩ := hrel
    by_cases hlt : (j : Int) < de
    · have hw1 : IntKind.i64.wrap ((j : Int) + 1) = (j : Int) + 1 := IntWalk.i64_in _ (by omega)
      go_upto_region 4 with fail
      have HB1 := Lib.hid (show Below w.heap.size w wr.drew from below_drew' HB.out)
      refine wp_region_held_drew (S := fun w' => Box w' w.heap.size 33 [.int .i64 de, .int .i64 qu, .int .i64 wi, .int .i64 ti, .int .i64 qa, .int .i64 bu, .int .i64 le, .int .i64 pb, .int .i64 pc, .int .i64 pj, .int .i64 pt, .int .i64 nw, .int .i64 la, .slice ea en ec, .slice ka kn kc, .int .i64 tu, .slice fa fn fc, .slice ra rn rc, .int .i64 tk, .int .i64 ac, .int .i64 dr]) (by kernel_rfl) (HX.out.below (below_drew' (Below.refl _ _))) (fun hHeld => ?_)
      refine wpAnyH_take (i := 0) (oi := { dst := some _, op := _, type := _, pos := _, after := _, guard := _ }) (v := ?_) rfl (by kernel_rfl) (by kernel_rfl) (by kernel_rfl) (fun _ _ _ h => h) ?_ (by with_reducible assumption) ?_
      rotate_left 1
      focus (refine Or.inl ⟨by rfl, ?_⟩; intro wq hSw; refine exec_load_box ?_ 33 ?_ ?_ hSw _ Tryd.underlying33 sizeGate; rotate_left 1; rfl; rfl)
      try simp only [Act.put, List.setIfInBounds_toArray, List.set_cons_zero, List.set_cons_succ]
      refine wpAnyH_take (i := 1) (oi := { dst := some _, op := _, type := _, pos := _, after := _, guard := _ }) (v := ?_) rfl (by kernel_rfl) (by kernel_rfl) (by kernel_rfl) (fun _ _ _ h => h) ?_ (by with_reducible assumption) ?_
      rotate_left 1
      focus (refine Or.inl ⟨by rfl, ?_⟩; intro wq hSw; go_simp; try with_reducible rfl)
      try simp only [Act.put, List.setIfInBounds_toArray, List.set_cons_zero, List.set_cons_succ]
      refine wpAnyH_take (i := 2) (oi := { dst := some _, op := _, type := _, pos := _, after := _, guard := _ }) (v := ?_) rfl (by kernel_rfl) (by kernel_rfl) (by kernel_rfl) (fun _ _ _ h => h) ?_ (by with_reducible assumption) ?_
      rotate_left 1
      focus (refine Or.inl ⟨by rfl, ?_⟩; intro wq hSw; go_simp; try with_reducible rfl)
      try simp only [Act.put, List.setIfInBounds_toArray, List.set_cons_zero, List.set_cons_succ]
      refine wpAnyH_take (i := 4) (oi := { dst := some _, op := _, type := _, pos := _, after := _, guard := _ }) (v := ?_) rfl (by kernel_rfl) (by kernel_rfl) (by kernel_rfl) (fun _ _ _ h => h) ?_ (by with_reducible assumption) ?_
      rotate_left 1
      focus (refine Or.inl ⟨by rfl, ?_⟩; intro wq hSw; go_simp; try with_reducible rfl)
      try simp only [Act.put, List.setIfInBounds_toArray, List.set_cons_zero, List.set_cons_succ]
      refine wpAnyH_take (i := 5) (oi := { dst := some _, op := _, type := _, pos := _, after := _, guard := _ }) (v := ?_) rfl (by kernel_rfl) (by kernel_rfl) (by kernel_rfl) (fun _ _ _ h => h) ?_ (by with_reducible assumption) ?_
      rotate_left 1
      focus (refine Or.inl ⟨by rfl, ?_⟩; intro wq hSw; go_simp; try with_reducible rfl)
      try simp only [Act.put, List.setIfInBounds_toArray, List.set_cons_zero, List.set_cons_succ]
      refine wpAnyH_take (i := 6) (oi := { dst := some _, op := _, type := _, pos := _, after := _, guard := _ }) (v := ?_) rfl (by kernel_rfl) (by kernel_rfl) (by kernel_rfl) (fun _ _ _ h => h) ?_ (by with_reducible assumption) ?_
      rotate_left 1
      focus (refine Or.inl ⟨by rfl, ?_⟩; intro wq hSw; have q0 := hSw.cell 0 _ rfl; have q1 := hSw.cell 1 _ rfl; go_simp; try with_reducible rfl)
      try simp only [Act.put, List.setIfInBounds_toArray, List.set_cons_zero, List.set_cons_succ]
      refine wpAnyH_ready (rs := [3]) (by kernel_rfl) (by simp) ?_
      refine AllReadyH.cons rfl (fun KA hKA => ?_) AllReadyH.nil
      go_simp
      refine (implOpenOf_any _ de qu wi ti qa bu le pb pc pj pt nw la ea en ec ka kn kc tu fa fn fc ra rn rc tk ac dr E K F R ((j : Int) + 1) (HT.out.here HB1.out)).mono ?_
      rintro e w2 ⟨rfl, hb⟩
      have HX2 := Lib.hid (hHeld.below hb)
      have HB2 := Lib.hid (low_after HB1.out hb)
      clear hb hHeld
      dsimp only
      refine hKA.out _ _ (HX2.out) (fun hHeld => ?_)
      clear hKA
      try simp only [Act.put, List.setIfInBounds_toArray, List.set_cons_zero, List.set_cons_succ]
      refine wpAnyH_take (i := 7) (oi := { dst := some _, op := _, type := _, pos := _, after := _, guard := _ }) (v := ?_) rfl (by kernel_rfl) (by kernel_rfl) (by kernel_rfl) (fun _ _ _ h => h) ?_ (by with_reducible assumption) ?_
      rotate_left 1
      focus (refine Or.inl ⟨by rfl, ?_⟩; intro wq hSw; go_simp; try with_reducible rfl)
      try simp only [Act.put, List.setIfInBounds_toArray, List.set_cons_zero, List.set_cons_succ]
      refine wpAnyH_done (by kernel_rfl) ?_ _
      by_cases hq : qu < (openN ((j : Int) + 1) E : Int)
      · have HNP := Lib.hid (show ¬ quP de qu E from fun h => by have := h j hlt; omega)
        go_wp2_with fail
        go_ret
        exact bend_no HNP.out HB2.out
      · have HQ2 := Lib.hid (show ∀ k : Nat, k < j + 1 → (openN ((k : Int) + 1) E : Int) ≤ qu from fun k hk => by
          rcases (show k < j ∨ k = j by omega) with h | rfl
          · exact HQ.out k h
          · omega)
        go_wp2_with fail
        go_roundw
        case rel => exact ⟨j + 1, by go_num, .inl (by omega), HQ2, HB2, HX2⟩
        case measure => simp [intOf]; omega
    · have HY := Lib.hid (show quP de qu E from fun k hk => HQ.out k (by omega))
      go_wp2_with fail
      go_ret
      exact bend_yes HY.out HB.out

set_option maxRecDepth 100000 in
set_option maxHeartbeats 4000000 in
theorem implShares_any (w : World) (de qu wi ti qa bu le pb pc pj pt nw la : Int) (ea : Option Addr) (en ec : Nat) (ka : Option Addr) (kn kc : Nat) (tu : Int) (fa : Option Addr) (fn fc : Nat) (ra : Option Addr) (rn rc : Nat) (tk ac dr : Int) (E : List Ev) (K : List Lk) (F R : List Int) (h : GIs w.heap.size w ea en ka kn fa fn ra rn E K F R) :
    Calls Tryd.prog 31 #[.agg #[.int .i64 de, .int .i64 qu, .int .i64 wi, .int .i64 ti, .int .i64 qa, .int .i64 bu, .int .i64 le, .int .i64 pb, .int .i64 pc, .int .i64 pj, .int .i64 pt, .int .i64 nw, .int .i64 la, .slice ea en ec, .slice ka kn kc, .int .i64 tu, .slice fa fn fc, .slice ra rn rc, .int .i64 tk, .int .i64 ac, .int .i64 dr]] w fun e w' => BEnd w w' (shP de tu fn F) e := by
  obtain ⟨W0, hW0⟩ : ∃ W, W = w.alloc (.cells #[.int .i64 de, .int .i64 qu, .int .i64 wi, .int .i64 ti, .int .i64 qa, .int .i64 bu, .int .i64 le, .int .i64 pb, .int .i64 pc, .int .i64 pj, .int .i64 pt, .int .i64 nw, .int .i64 la, .slice ea en ec, .slice ka kn kc, .int .i64 tu, .slice fa fn fc, .slice ra rn rc, .int .i64 tk, .int .i64 ac, .int .i64 dr] 33) := ⟨_, rfl⟩
  have HA : Hid (Box W0 w.heap.size 33 [.int .i64 de, .int .i64 qu, .int .i64 wi, .int .i64 ti, .int .i64 qa, .int .i64 bu, .int .i64 le, .int .i64 pb, .int .i64 pc, .int .i64 pj, .int .i64 pt, .int .i64 nw, .int .i64 la, .slice ea en ec, .slice ka kn kc, .int .i64 tu, .slice fa fn fc, .slice ra rn rc, .int .i64 tk, .int .i64 ac, .int .i64 dr]) := Lib.hid (by rw [hW0]; exact Box.new w [.int .i64 de, .int .i64 qu, .int .i64 wi, .int .i64 ti, .int .i64 qa, .int .i64 bu, .int .i64 le, .int .i64 pb, .int .i64 pc, .int .i64 pj, .int .i64 pt, .int .i64 nw, .int .i64 la, .slice ea en ec, .slice ka kn kc, .int .i64 tu, .slice fa fn fc, .slice ra rn rc, .int .i64 tk, .int .i64 ac, .int .i64 dr] 33)
  have HL : Hid (Below w.heap.size w W0) := Lib.hid (by rw [hW0]; exact bOne _ _)
  have HWE := Lib.hid hW0
  have c0 := HA.out.cell 0 _ rfl
  have c15 := HA.out.cell 15 _ rfl
  have c16 := HA.out.cell 16 _ rfl
  have HT := Lib.hid (h.here HL.out).lf
  have HN := Lib.hid HT.out.hlen
  have hfl := h.fle
  unfold maxLen at hfl
  clear h hW0
  go_enter Tryd.func31, Tryd.ntmps31
  go_upto_region 1 with fail
  rw [← HWE.out]
  by_cases g1 : tu < 0
  · have HNP := Lib.hid (show ¬ shP de tu fn F from fun h => by have h1 := h.1; have h2 := h.2.1; have h3 := h.2.2.1; omega)
    go_wp2_with fail
    go_ret
    exact bend_no HNP.out HL.out
  by_cases g2 : de ≤ tu
  · have HNP := Lib.hid (show ¬ shP de tu fn F from fun h => by have h1 := h.1; have h2 := h.2.1; have h3 := h.2.2.1; omega)
    go_wp2_with fail
    go_ret
    exact bend_no HNP.out HL.out
  by_cases g3 : ¬ (fn : Int) = de
  · have HNP := Lib.hid (show ¬ shP de tu fn F from fun h => by have h1 := h.1; have h2 := h.2.1; have h3 := h.2.2.1; omega)
    go_wp2_with fail
    go_ret
    exact bend_no HNP.out HL.out
  have hbn : ((fn : Int) != de) = false := by simp; omega
  go_wp2_with fail
  go_loopw [28] (fun i wr => ∃ j : Nat, j ≤ fn ∧ i = .int .i64 j ∧ Hid (∀ k, (hk : k < F.length) → k < j → 0 ≤ F[k] ∧ F[k] ≤ 1000) ∧ wr = W0) (fun i _ => fn - (intOf i).toNat)
  case atStart => exact ⟨0, by omega, rfl, Lib.hid (fun k _ hk => by omega), rfl⟩
  case round =>
    obtain ⟨j, hj, rfl, HQ, rfl⟩ := hrel
    by_cases hlt : (j : Int) < (fn : Int)
    · have hjl : j < F.length := by have := HN.out; omega
      obtain ⟨b, off, rfl, hb, x0⟩ := HT.out.cell j hjl
      obtain ⟨x, hx⟩ : ∃ x, x = F[j] := ⟨_, rfl⟩
      rw [← hx] at x0
      have HX := Lib.hid hx
      clear hx
      by_cases h1 : x < 0
      · have HNP := Lib.hid (show ¬ shP de tu fn F from fun h => by have := h.2.2.2 F[j] (List.getElem_mem _); rw [← HX.out] at this; omega)
        go_wp2_with fail
        go_ret
        exact bend_no HNP.out HL.out
      by_cases h2 : 1000 < x
      · have HNP := Lib.hid (show ¬ shP de tu fn F from fun h => by have := h.2.2.2 F[j] (List.getElem_mem _); rw [← HX.out] at this; omega)
        go_wp2_with fail
        go_ret
        exact bend_no HNP.out HL.out
      have HQ2 := Lib.hid (show ∀ k, (hk : k < F.length) → k < j + 1 → 0 ≤ F[k] ∧ F[k] ≤ 1000 from fun k hk hkj => by
        rcases (show k < j ∨ k = j by omega) with h | rfl
        · exact HQ.out k hk h
        · rw [← HX.out]; omega)
      go_wp2_with fail
      go_roundw
      case rel => exact ⟨j + 1, by omega, by go_num, HQ2, by trivial⟩
      case measure => simp [intOf]; omega
    · have HY := Lib.hid (show shP de tu fn F from ⟨by omega, by omega, by omega, fun x hx => by
        obtain ⟨k, hk, rfl⟩ := List.mem_iff_getElem.1 hx
        exact HQ.out k hk (by have := HN.out; omega)⟩)
      go_wp2_with fail
      go_ret
      exact bend_yes HY.out HL.out

end Go.Proofs.YtkndpkingmemoaaDoor.Gat
namespace Go.Proofs.YtkndpkingmemoaaDoor.Gat
open Go.RowKit Go.Maps
open Lnk (bOne bAfter IOwn IIs below_keep below_drew' low_after low_alloc keyInt grown_of_below)
set_option linter.unusedVariables false

theorem iis_map {w w' : World} {a : Option Addr} {n b m : Nat} {D : DataW Unit} {l : List Int} (h : IIs w.heap.size w a n l) (hm : w.ownsMap Tryd.prog 3 (plainElem (H := Unit) Tryd.prog 3) b m D) (hg : w.grownBy w' (some b)) : IIs w'.heap.size w' a n l :=
  ⟨h.hlen, fun k hk => by
    obtain ⟨q, off, e, hlt, h0⟩ := h.cell k hk
    have hne : some q ≠ some b := by
      intro e2
      injection e2 with e2
      subst e2
      obtain ⟨es, clock, hb, _⟩ := hm
      simp [World.cell?, hb] at h0
    exact ⟨q, off, e, Nat.lt_of_lt_of_le hlt hg.size, hg.cell (a := ⟨q, off + k, none⟩) h0 hne⟩⟩
/-- a test's answer -/
def BIs (P : Prop) (e : Ending) : Prop := ∃ x : Bool, e = .returned (.bool x) ∧ (x = true ↔ P)
theorem bis_no {P : Prop} (h : ¬ P) : BIs P (.returned (.bool false)) := ⟨false, rfl, by simp [h]⟩
theorem bis_yes {P : Prop} (h : P) : BIs P (.returned (.bool true)) := ⟨true, rfl, by simp [h]⟩
def eraseAll (K ids : List Int) : List Int := ids.foldl List.erase K
/-- the ids are just those keys, each once -/
def MetP (K ids : List Int) : Prop := (∀ j, (h : j < ids.length) → ids[j] ∈ eraseAll K (ids.take j)) ∧ eraseAll K ids = []
theorem eraseAll_snoc (K ids : List Int) (j : Nat) (h : j < ids.length) : eraseAll K (ids.take (j + 1)) = (eraseAll K (ids.take j)).erase ids[j] := by
  unfold eraseAll
  rw [List.take_succ_eq_append_getElem h, List.foldl_append]
  rfl
theorem eraseAll_nodup : ∀ (ids K : List Int), K.Nodup → (eraseAll K ids).Nodup
  | [], K, h => h
  | x :: r, K, h => eraseAll_nodup r (K.erase x) (h.erase x)

set_option maxRecDepth 100000 in
set_option maxHeartbeats 4000000 in
theorem meet_any (w : World) (b n : Nat) (D : DataW Unit) (K : List Int) (a : Option Addr) (len cap : Nat) (ids : List Int) (hM : MapIs w b n D K) (hK : K.Nodup) (hI : IIs w.heap.size w a len ids) (hwf : ∀ x ∈ ids, (Lit.int .i64 x).wf = true) (hlen : len ≤ 2000000) :
    Calls Tryd.prog 54 #[.map (some b), .slice a len cap] w fun e w' => BIs (MetP K ids) e ∧ w.grownBy w' (some b) ∧ ∃ n' D' K', MapIs w' b n' D' K' := by
  have HN := Lib.hid hI.hlen
  have HW := Lib.hid hwf
  have HK := Lib.hid hK
  have HM := Lib.hid hM
  have HI := Lib.hid hI
  clear hM hI hwf hK
  go_enter Tryd.func54, Tryd.ntmps54
  go_wp2_with fail
  go_loopw [11] (fun i wr => ∃ (j : Nat) (D : DataW Unit), j ≤ len ∧ i = .int .i64 j ∧ Hid (∀ k, (h : k < ids.length) → k < j → ids[k] ∈ eraseAll K (ids.take k)) ∧ Hid (MapIs wr b n D (eraseAll K (ids.take j))) ∧ Hid (IIs wr.heap.size wr a len ids) ∧ Hid (w.grownBy wr (some b))) (fun i _ => len - (intOf i).toNat)
  case atStart => exact ⟨0, D, by omega, rfl, Lib.hid (fun k _ hk => by omega), Lib.hid (by simpa [eraseAll] using HM.out), HI, Lib.hid (World.grownBy.refl _ _)⟩
  case round =>
    obtain ⟨j, D, hj, rfl, HQ, HM, HI, HG⟩ := hrel
    by_cases hlt : (j : Int) < (len : Int)
    · have hjl : j < ids.length := by have := HN.out; omega
      obtain ⟨q, off, rfl, hb, x0⟩ := HI.out.cell j hjl
      obtain ⟨x, hx⟩ : ∃ x, x = ids[j] := ⟨_, rfl⟩
      have hwx : (Lit.int .i64 x).wf = true := by rw [hx]; exact HW.out _ (List.getElem_mem _)
      rw [← hx] at x0
      have HX := Lib.hid hx
      have HWX := Lib.hid hwx
      have HH := Lib.hid (HM.out.keys x)
      clear hx hwx hb
      by_cases hin : x ∈ eraseAll K (ids.take j)
      · have HIN := Lib.hid hin
        have hha : Maps.has D (.int .i64 x) = true := by rw [HH.out]; exact decide_eq_true hin
        clear hin
        go_wp2_with (first | (at_lookup; refine wpList_lookup_own_ok_int _ rfl _ _ 70 rfl 3 3 .i64 keyInt Tryd.underlying70 Tryd.underlying3 (zeroInt _) b n D rfl HM.out.own _ (.int .i64 x) rfl (keyOf_wf HWX.out) ?_; intro c1 hat hwc; rw [hha]; clear hat hwc) | (at_delete; refine wpList_delete_own _ rfl _ _ 70 3 rfl 3 keyInt Tryd.underlying70 _ b n D rfl HM.out.own _ _ rfl (keyOf_wf HWX.out) ?_; intro w1 hown1 hturn1; have HO1 := Lib.hid hown1; have HG1 := Lib.hid hturn1.grown; clear hown1 hturn1) | fail)
        go_roundw
        case rel => exact ⟨j + 1, _, by omega, by go_num, Lib.hid (fun k hk hkj => by
            rcases (show k < j ∨ k = j by omega) with h | rfl
            · exact HQ.out k hk h
            · rw [← HX.out]; exact HIN.out), Lib.hid (by rw [eraseAll_snoc K ids j hjl, ← HX.out]; exact HM.out.del HIN.out (eraseAll_nodup _ _ HK.out) HO1.out), Lib.hid (iis_map HI.out HM.out.own HG1.out), Lib.hid (HG.out.trans HG1.out)⟩
        case measure => simp [intOf]; omega
      · have hha : Maps.has D (.int .i64 x) = false := by rw [HH.out]; exact decide_eq_false hin
        have HNP := Lib.hid (show ¬ MetP K ids from fun h => hin (by rw [HX.out]; exact h.1 j hjl))
        clear hin
        go_wp2_with (first | (at_lookup; refine wpList_lookup_own_ok_int _ rfl _ _ 70 rfl 3 3 .i64 keyInt Tryd.underlying70 Tryd.underlying3 (zeroInt _) b n D rfl HM.out.own _ (.int .i64 x) rfl (keyOf_wf HWX.out) ?_; intro c1 hat hwc; rw [hha]; clear hat hwc) | fail)
        go_ret
        exact ⟨bis_no HNP.out, HG.out, n, D, _, HM.out⟩
    · have hjl : j = ids.length := by have := HN.out; omega
      have hM := HM.out
      rw [hjl, List.take_length] at hM
      have HM' := Lib.hid hM
      have HSZ := Lib.hid hM.size
      have HQ' := Lib.hid (show ∀ k, (h : k < ids.length) → ids[k] ∈ eraseAll K (ids.take k) from fun k hk => HQ.out k hk (by omega))
      obtain ⟨m, hm⟩ : ∃ m, m = Maps.size D := ⟨_, rfl⟩
      have HMM := Lib.hid hm
      clear hM hjl
      by_cases h0 : m = 0
      · have HY := Lib.hid (show MetP K ids from ⟨HQ'.out, List.length_eq_zero_iff.1 (by rw [← HSZ.out, ← hm]; exact h0)⟩)
        have hbb : ((m : Int) == 0) = true := by simp [h0]
        clear hm
        go_wp2_with (first | (at_len; refine wpList_len_own _ rfl _ 70 rfl 3 3 Tryd.underlying70 _ b n D rfl HM'.out.own ?_; rw [← HMM.out]) | fail)
        go_ret
        exact ⟨bis_yes HY.out, HG.out, n, D, _, HM'.out⟩
      · have HNP := Lib.hid (show ¬ MetP K ids from fun h => h0 (by rw [hm, HSZ.out, h.2]; rfl))
        have hbb : ((m : Int) == 0) = false := by simp; omega
        clear hm
        go_wp2_with (first | (at_len; refine wpList_len_own _ rfl _ 70 rfl 3 3 Tryd.underlying70 _ b n D rfl HM'.out.own ?_; rw [← HMM.out]) | fail)
        go_ret
        exact ⟨bis_no HNP.out, HG.out, n, D, _, HM'.out⟩

set_option maxRecDepth 100000 in
set_option maxHeartbeats 4000000 in
theorem implTotals_any (w : World) (de qu wi ti qa bu le pb pc pj pt nw la : Int) (ea : Option Addr) (en ec : Nat) (ka : Option Addr) (kn kc : Nat) (tu : Int) (fa : Option Addr) (fn fc : Nat) (ra : Option Addr) (rn rc : Nat) (tk ac dr : Int) (E : List Ev) (K : List Lk) (F R : List Int) (hen : en ≤ 1048576) :
    Calls Tryd.prog 33 #[.agg #[.int .i64 de, .int .i64 qu, .int .i64 wi, .int .i64 ti, .int .i64 qa, .int .i64 bu, .int .i64 le, .int .i64 pb, .int .i64 pc, .int .i64 pj, .int .i64 pt, .int .i64 nw, .int .i64 la, .slice ea en ec, .slice ka kn kc, .int .i64 tu, .slice fa fn fc, .slice ra rn rc, .int .i64 tk, .int .i64 ac, .int .i64 dr]] w fun e w' => BEnd w w' (toP en tk ac dr) e := by
  obtain ⟨W0, hW0⟩ : ∃ W, W = w.alloc (.cells #[.int .i64 de, .int .i64 qu, .int .i64 wi, .int .i64 ti, .int .i64 qa, .int .i64 bu, .int .i64 le, .int .i64 pb, .int .i64 pc, .int .i64 pj, .int .i64 pt, .int .i64 nw, .int .i64 la, .slice ea en ec, .slice ka kn kc, .int .i64 tu, .slice fa fn fc, .slice ra rn rc, .int .i64 tk, .int .i64 ac, .int .i64 dr] 33) := ⟨_, rfl⟩
  have HA : Hid (Box W0 w.heap.size 33 [.int .i64 de, .int .i64 qu, .int .i64 wi, .int .i64 ti, .int .i64 qa, .int .i64 bu, .int .i64 le, .int .i64 pb, .int .i64 pc, .int .i64 pj, .int .i64 pt, .int .i64 nw, .int .i64 la, .slice ea en ec, .slice ka kn kc, .int .i64 tu, .slice fa fn fc, .slice ra rn rc, .int .i64 tk, .int .i64 ac, .int .i64 dr]) := Lib.hid (by rw [hW0]; exact Box.new w [.int .i64 de, .int .i64 qu, .int .i64 wi, .int .i64 ti, .int .i64 qa, .int .i64 bu, .int .i64 le, .int .i64 pb, .int .i64 pc, .int .i64 pj, .int .i64 pt, .int .i64 nw, .int .i64 la, .slice ea en ec, .slice ka kn kc, .int .i64 tu, .slice fa fn fc, .slice ra rn rc, .int .i64 tk, .int .i64 ac, .int .i64 dr] 33)
  have HL : Hid (Below w.heap.size w W0) := Lib.hid (by rw [hW0]; exact bOne _ _)
  have HWE := Lib.hid hW0
  have c8 := HA.out.cell 18 _ rfl
  have c9 := HA.out.cell 19 _ rfl
  have c10 := HA.out.cell 20 _ rfl
  obtain ⟨W1, hW1⟩ : ∃ W, W = W0.alloc (.cells #[.int .i64 tk, .int .i64 ac, .int .i64 dr] 3) := ⟨_, rfl⟩
  obtain ⟨q, hq⟩ : ∃ q, q = W0.heap.size := ⟨_, rfl⟩
  have HB := Lib.hid (show Box W1 q 3 [.int .i64 tk, .int .i64 ac, .int .i64 dr] by rw [hW1, hq]; exact Box.new W0 [.int .i64 tk, .int .i64 ac, .int .i64 dr] 3)
  have HL1 := Lib.hid (show Below w.heap.size w W1 by rw [hW1]; exact low_alloc HL.out _)
  have HA1 := Lib.hid (HA.out.below (show Below W0.heap.size W0 W1 by rw [hW1]; exact bOne _ _))
  have HWE1 := Lib.hid hW1
  have HQQ := Lib.hid hq
  clear hW0 hW1 hq
  go_enter Tryd.func33, Tryd.ntmps33
  go_upto_region 1 with fail
  rw [← HWE.out]
  go_wp2_with fail
  rw [← HWE1.out, ← HQQ.out]
  clear c8 c9 c10
  have b0 := HB.out.cell 0 _ rfl
  have b1 := HB.out.cell 1 _ rfl
  have b2 := HB.out.cell 2 _ rfl
  have c8 := HA1.out.cell 8 _ rfl
  have c13 := HA1.out.cell 13 _ rfl
  have c18 := HA1.out.cell 18 _ rfl
  have c19 := HA1.out.cell 19 _ rfl
  have c20 := HA1.out.cell 20 _ rfl
  go_loopw [13] (fun i wr => ∃ j : Nat, j ≤ 3 ∧ i = .int .i64 j ∧ Hid ((j > 0 → 0 ≤ tk ∧ tk ≤ 9999) ∧ (j > 1 → 0 ≤ ac ∧ ac ≤ 9999) ∧ (j > 2 → 0 ≤ dr ∧ dr ≤ 9999)) ∧ wr = W1) (fun i _ => 3 - (intOf i).toNat)
  case atStart => exact ⟨0, by omega, rfl, Lib.hid (by omega), rfl⟩
  case round =>
    obtain ⟨j, hj, rfl, HQ, rfl⟩ := hrel
    by_cases hlt : j < 3
    · rcases (show j = 0 ∨ j = 1 ∨ j = 2 by omega) with rfl | rfl | rfl
      · by_cases h1 : tk < 0
        · have HNP := Lib.hid (show ¬ toP en tk ac dr from fun h => by have h2 := h.1; have h3 := h.2.1; have h4 := h.2.2.1; omega)
          go_wp2_with fail
          go_ret
          exact bend_no HNP.out HL1.out
        by_cases h2 : 9999 < tk
        · have HNP := Lib.hid (show ¬ toP en tk ac dr from fun h => by have h2 := h.1; have h3 := h.2.1; have h4 := h.2.2.1; omega)
          go_wp2_with fail
          go_ret
          exact bend_no HNP.out HL1.out
        have HQ2 := Lib.hid (show (0 + 1 > 0 → 0 ≤ tk ∧ tk ≤ 9999) ∧ (0 + 1 > 1 → 0 ≤ ac ∧ ac ≤ 9999) ∧ (0 + 1 > 2 → 0 ≤ dr ∧ dr ≤ 9999) from by have := HQ.out; omega)
        go_wp2_with fail
        go_roundw
        case rel => exact ⟨0 + 1, by omega, by go_num, HQ2, by trivial⟩
        case measure => simp [intOf]
      · by_cases h1 : ac < 0
        · have HNP := Lib.hid (show ¬ toP en tk ac dr from fun h => by have h2 := h.1; have h3 := h.2.1; have h4 := h.2.2.1; omega)
          go_wp2_with fail
          go_ret
          exact bend_no HNP.out HL1.out
        by_cases h2 : 9999 < ac
        · have HNP := Lib.hid (show ¬ toP en tk ac dr from fun h => by have h2 := h.1; have h3 := h.2.1; have h4 := h.2.2.1; omega)
          go_wp2_with fail
          go_ret
          exact bend_no HNP.out HL1.out
        have HQ2 := Lib.hid (show (1 + 1 > 0 → 0 ≤ tk ∧ tk ≤ 9999) ∧ (1 + 1 > 1 → 0 ≤ ac ∧ ac ≤ 9999) ∧ (1 + 1 > 2 → 0 ≤ dr ∧ dr ≤ 9999) from by have := HQ.out; omega)
        go_wp2_with fail
        go_roundw
        case rel => exact ⟨1 + 1, by omega, by go_num, HQ2, by trivial⟩
        case measure => simp [intOf]
      · by_cases h1 : dr < 0
        · have HNP := Lib.hid (show ¬ toP en tk ac dr from fun h => by have h2 := h.1; have h3 := h.2.1; have h4 := h.2.2.1; omega)
          go_wp2_with fail
          go_ret
          exact bend_no HNP.out HL1.out
        by_cases h2 : 9999 < dr
        · have HNP := Lib.hid (show ¬ toP en tk ac dr from fun h => by have h2 := h.1; have h3 := h.2.1; have h4 := h.2.2.1; omega)
          go_wp2_with fail
          go_ret
          exact bend_no HNP.out HL1.out
        have HQ2 := Lib.hid (show (2 + 1 > 0 → 0 ≤ tk ∧ tk ≤ 9999) ∧ (2 + 1 > 1 → 0 ≤ ac ∧ ac ≤ 9999) ∧ (2 + 1 > 2 → 0 ≤ dr ∧ dr ≤ 9999) from by have := HQ.out; omega)
        go_wp2_with fail
        go_roundw
        case rel => exact ⟨2 + 1, by omega, by go_num, HQ2, by trivial⟩
        case measure => simp [intOf]
    · have hj3 : j = 3 := by omega
      subst hj3
      have hq := HQ.out
      obtain ⟨q0, q1, q2⟩ := hq
      have r0 := q0 (by omega)
      have r1 := q1 (by omega)
      have r2 := q2 (by omega)
      have hw1 : IntKind.i64.wrap ((en : Int) + ac) = (en : Int) + ac := IntWalk.i64_in _ (by omega)
      have hw2 : IntKind.i64.wrap ((en : Int) + ac + dr) = (en : Int) + ac + dr := IntWalk.i64_in _ (by omega)
      by_cases ht : tk = (en : Int) + ac + dr
      · have HY := Lib.hid (show toP en tk ac dr from ⟨r0, r1, r2, ht⟩)
        have hbb : (tk == (en : Int) + ac + dr) = true := by simp [ht]
        have HR := Lib.hid (And.intro r0 (And.intro r1 r2))
        clear ht q0 q1 q2 r0 r1 r2
        go_wp2_with fail
        go_ret
        exact bend_yes HY.out HL1.out
      · have HNP := Lib.hid (show ¬ toP en tk ac dr from fun h => ht h.2.2.2)
        have hbb : (tk == (en : Int) + ac + dr) = false := by simp [ht]
        have HR := Lib.hid (And.intro r0 (And.intro r1 r2))
        clear ht q0 q1 q2 r0 r1 r2
        go_wp2_with fail
        go_ret
        exact bend_no HNP.out HL1.out

end Go.Proofs.YtkndpkingmemoaaDoor.Gat
namespace Go.Proofs.YtkndpkingmemoaaDoor.Gat
open Go.RowKit Go.Maps
open Lnk (bOne bAfter IOwn IIs below_keep below_drew' low_after low_alloc keyInt grown_of_below lokB LOk idsL)
set_option linter.unusedVariables false

def isDead (e : Ev) : Bool := e.s == 3
def isFly (d : Int) (e : Ev) : Bool := (e.s == 1) && (e.d == d)
def leP (rn : Nat) (le : Int) (E : List Ev) (R : List Int) : Prop := (rn : Int) ≤ le ∧ MetP (fillK isDead E) R
def liGood (wi d : Int) (E : List Ev) (k : Lk) : Prop := LOk k.up k.ep k.sq k.l ∧ (k.l.length : Int) ≤ wi ∧ MetP (fillK (isFly d) E) (idsL k.l)
def liP (kn : Nat) (de wi : Int) (E : List Ev) (K : List Lk) : Prop := (kn : Int) = de ∧ ∀ k, (h : k < K.length) → liGood wi ((k : Int) + 1) E K[k]
theorem ids_wf {up : Bool} {ep sq : Int} {l : List Lnk.Y} (h : LOk up ep sq l) : ∀ x ∈ idsL l, (Lit.int .i64 x).wf = true := by
  intro x hx
  obtain ⟨t, ht, rfl⟩ := List.mem_map.1 hx
  have h1 := (h.rng t ht).2.2
  exact WalkArith.wf_i64 (by have := h1.1; have := h1.2.1; omega)
theorem lok_of {up : Bool} {ep sq : Int} {l : List Lnk.Y} {x : Bool} (h : lokB up ep sq l = x) : x = true ↔ LOk up ep sq l := by
  rw [← h]
  unfold lokB
  simp

theorem dead_any (i d c : Int) (b : ByteArray) (a t r n s : Int) (w : World) :
    Calls Tryd.prog 56 #[.agg #[.int .i64 i, .int .i64 d, .int .i64 c, .string b, .int .i64 a, .int .i64 t, .int .i64 r, .int .i64 n, .int .i64 s]] w fun e w' => e = .returned (.bool (isDead ⟨i, d, c, b, a, t, r, n, s⟩)) ∧ Below w.heap.size w w' := by
  have hd : isDead ⟨i, d, c, b, a, t, r, n, s⟩ = (s == 3) := rfl
  rw [hd]
  go_enter Tryd.func56, Tryd.ntmps56
  go_wp2
  go_ret
  exact ⟨rfl, bOne _ _⟩
theorem enters_dead : ∀ (args : Array Value) (w1 : World), (callFunc 56 args).run Tryd.prog w1 = .ok (.enter 56 args) w1 := enters_of Tryd.func56 (by kernel_rfl) rfl
theorem fly_any (i d c : Int) (b : ByteArray) (a t r n s : Int) (k off : Nat) (j : Int) (w : World) (hj : 0 ≤ j ∧ j ≤ 1000) (hP : w.cell? ⟨k, off, none⟩ = some (.int .i64 j)) :
    Calls Tryd.prog 53 #[.agg #[.int .i64 i, .int .i64 d, .int .i64 c, .string b, .int .i64 a, .int .i64 t, .int .i64 r, .int .i64 n, .int .i64 s], .pointer (some ⟨k, off, none⟩)] w fun e w' => e = .returned (.bool (isFly (j + 1) ⟨i, d, c, b, a, t, r, n, s⟩)) ∧ Below w.heap.size w w' := by
  have hd : isFly (j + 1) ⟨i, d, c, b, a, t, r, n, s⟩ = ((s == 1) && (d == j + 1)) := rfl
  rw [hd]
  have hk := World.block_lt_of_cell? w _ hP
  have hw1 : IntKind.i64.wrap (j + 1) = j + 1 := IntWalk.i64_in _ (by omega)
  have hc := (bOne w (.cells #[.int .i64 i, .int .i64 d, .int .i64 c, .string b, .int .i64 a, .int .i64 t, .int .i64 r, .int .i64 n, .int .i64 s] 55)).cell (p := ⟨k, off, none⟩) hk
  rw [hP] at hc
  have HE := Evt.B9.new w i d c b a t r n s 55
  obtain ⟨y0, y1, y2, y3, y4, y5, y6, y7, y8, ylt⟩ := HE
  clear hd hk hP
  cases h1 : (s == 1) with
  | false =>
    go_enter Tryd.func53, Tryd.ntmps53
    go_wp2
    go_ret
    exact ⟨rfl, bOne _ _⟩
  | true =>
    go_enter Tryd.func53, Tryd.ntmps53
    go_wp2
    go_ret
    exact ⟨rfl, bOne _ _⟩
theorem enters_fly : ∀ (args : Array Value) (w1 : World), (callFunc 53 args).run Tryd.prog w1 = .ok (.enter 53 args) w1 := enters_of Tryd.func53 (by kernel_rfl) rfl

set_option maxRecDepth 100000 in
set_option maxHeartbeats 4000000 in
theorem implLetters_any (w : World) (de qu wi ti qa bu le pb pc pj pt nw la : Int) (ea : Option Addr) (en ec : Nat) (ka : Option Addr) (kn kc : Nat) (tu : Int) (fa : Option Addr) (fn fc : Nat) (ra : Option Addr) (rn rc : Nat) (tk ac dr : Int) (E : List Ev) (K : List Lk) (F R : List Int) (hE : ∀ e ∈ E, (Lit.int .i64 e.i).wf = true) (hR : ∀ x ∈ R, (Lit.int .i64 x).wf = true) (hen : en ≤ 1048576) (hrn : rn ≤ 1048576) (h : GIs w.heap.size w ea en ka kn fa fn ra rn E K F R) :
    Calls Tryd.prog 32 #[.agg #[.int .i64 de, .int .i64 qu, .int .i64 wi, .int .i64 ti, .int .i64 qa, .int .i64 bu, .int .i64 le, .int .i64 pb, .int .i64 pc, .int .i64 pj, .int .i64 pt, .int .i64 nw, .int .i64 la, .slice ea en ec, .slice ka kn kc, .int .i64 tu, .slice fa fn fc, .slice ra rn rc, .int .i64 tk, .int .i64 ac, .int .i64 dr]] w fun e w' => BEnd w w' (leP rn le E R) e := by
  have hmm := @run_makeMap Tryd.prog
  obtain ⟨W0, hW0⟩ : ∃ W, W = w.alloc (.cells #[.int .i64 de, .int .i64 qu, .int .i64 wi, .int .i64 ti, .int .i64 qa, .int .i64 bu, .int .i64 le, .int .i64 pb, .int .i64 pc, .int .i64 pj, .int .i64 pt, .int .i64 nw, .int .i64 la, .slice ea en ec, .slice ka kn kc, .int .i64 tu, .slice fa fn fc, .slice ra rn rc, .int .i64 tk, .int .i64 ac, .int .i64 dr] 33) := ⟨_, rfl⟩
  have HA : Hid (Box W0 w.heap.size 33 [.int .i64 de, .int .i64 qu, .int .i64 wi, .int .i64 ti, .int .i64 qa, .int .i64 bu, .int .i64 le, .int .i64 pb, .int .i64 pc, .int .i64 pj, .int .i64 pt, .int .i64 nw, .int .i64 la, .slice ea en ec, .slice ka kn kc, .int .i64 tu, .slice fa fn fc, .slice ra rn rc, .int .i64 tk, .int .i64 ac, .int .i64 dr]) := Lib.hid (by rw [hW0]; exact Box.new w [.int .i64 de, .int .i64 qu, .int .i64 wi, .int .i64 ti, .int .i64 qa, .int .i64 bu, .int .i64 le, .int .i64 pb, .int .i64 pc, .int .i64 pj, .int .i64 pt, .int .i64 nw, .int .i64 la, .slice ea en ec, .slice ka kn kc, .int .i64 tu, .slice fa fn fc, .slice ra rn rc, .int .i64 tk, .int .i64 ac, .int .i64 dr] 33)
  have HL : Hid (Below w.heap.size w W0) := Lib.hid (by rw [hW0]; exact bOne _ _)
  have HWE := Lib.hid hW0
  have HSZ := Lib.hid (show w.heap.size + 1 = W0.heap.size by rw [hW0]; simp)
  have c6 := HA.out.cell 6 _ rfl
  have c17 := HA.out.cell 17 _ rfl
  have HT := Lib.hid h
  have HEW := Lib.hid hE
  have HRW := Lib.hid hR
  clear h hW0 hE hR
  by_cases hbig : le < (rn : Int)
  · have HNP := Lib.hid (show ¬ leP rn le E R from fun h => by have := h.1; omega)
    go_enter Tryd.func32, Tryd.ntmps32
    go_upto_region 1 with fail
    rw [← HWE.out]
    go_wp2_with fail
    go_ret
    exact bend_no HNP.out HL.out
  have HLE := Lib.hid (show (rn : Int) ≤ le by omega)
  go_enter Tryd.func32, Tryd.ntmps32
  go_upto_region 1 with fail
  rw [← HWE.out]
  clear HWE
  go_upto_region 4 with fail
  clear c6 c17 hbig
  have HM0 := Lib.hid (World.ownsMap_made (H := Unit) W0 Tryd.prog 3 (plainElem (H := Unit) Tryd.prog 3))
  have HB1 := Lib.hid (bOne W0 (.map #[] 0))
  obtain ⟨b, hb⟩ : ∃ b, b = W0.heap.size := ⟨_, rfl⟩
  rw [← hb] at HM0 ⊢
  have HA1 := Lib.hid (HA.out.below HB1.out)
  have HL1 := Lib.hid (low_after HL.out HB1.out)
  have HBS := Lib.hid (show b ≤ (W0.alloc (.map #[] 0)).heap.size by rw [hb]; simp)
  have HBW := Lib.hid (show w.heap.size < b by rw [hb]; have := HSZ.out; omega)
  have HG1 := Lib.hid (show GIs b (W0.alloc (.map #[] 0)) ea en ka kn fa fn ra rn E K F R from (HT.out.below (low_after HL.out HB1.out)).mono (Nat.le_of_lt HBW.out))
  clear hb HA HL HSZ HB1
  obtain ⟨W1, hW1⟩ : ∃ W, W = W0.alloc (.map #[] 0) := ⟨_, rfl⟩
  rw [← hW1] at HM0 HA1 HG1 HL1 HBS ⊢
  clear hW1
  have c13 := HA1.out.cell 13 _ rfl
  go_wp2_with fail
  refine (fill0_any 56 isDead W1 b b 0 _ ea en ec E (Nat.le_refl _) HBS.out HG1.out.ev HEW.out (by omega) HM0.out enters_dead (fun w1 i d c bd at_ t r n s hg => dead_any i d c bd at_ t r n s w1)).mono ?_
  rintro e w2 ⟨rfl, ⟨D, hM, hV⟩, hg⟩
  have HM := Lib.hid hM
  have HBB := Lib.hid (show Below b W1 w2 from (Below.refl _ _).grown hg HBS.out (fun k e => by cases e; exact Nat.le_refl _))
  have HA2 := Lib.hid (HA1.out.low HBB.out HBW.out)
  have HG2 := Lib.hid (HG1.out.below HBB.out)
  have HS2 := Lib.hid (Nat.le_trans HBS.out HBB.out.size)
  have HL2 := Lib.hid (HL1.out.trans (HBB.out.mono (Nat.le_of_lt HBW.out)))
  clear hM hV hg c13
  have c17 := HA2.out.cell 17 _ rfl
  go_wp2_with fail
  refine (meet_any w2 b en D _ ra rn rc R HM.out (fillK_nodup _ _) (Lnk.IIs.mono HG2.out.lt HS2.out) HRW.out (by omega)).mono ?_
  rintro e w3 ⟨⟨x, rfl, hx⟩, hg3, _⟩
  have HX := Lib.hid hx
  have HL3 := Lib.hid (HL2.out.grown hg3 HL2.out.size (fun k e => by cases e; exact Nat.le_of_lt HBW.out))
  clear hx hg3
  go_wp2_with fail
  go_ret
  exact ⟨⟨x, rfl, by rw [HX.out]; exact ⟨fun h => ⟨HLE.out, h⟩, fun h => h.2⟩⟩, HL3.out⟩

set_option maxRecDepth 100000 in
set_option maxHeartbeats 8000000 in
theorem implLinks_any (w : World) (de qu wi ti qa bu le pb pc pj pt nw la : Int) (ea : Option Addr) (en ec : Nat) (ka : Option Addr) (kn kc : Nat) (tu : Int) (fa : Option Addr) (fn fc : Nat) (ra : Option Addr) (rn rc : Nat) (tk ac dr : Int) (E : List Ev) (K : List Lk) (F R : List Int) (hE : ∀ e ∈ E, (Lit.int .i64 e.i).wf = true) (hen : en ≤ 1048576) (hde : de ≤ 1000) (h : GIs w.heap.size w ea en ka kn fa fn ra rn E K F R) :
    Calls Tryd.prog 30 #[.agg #[.int .i64 de, .int .i64 qu, .int .i64 wi, .int .i64 ti, .int .i64 qa, .int .i64 bu, .int .i64 le, .int .i64 pb, .int .i64 pc, .int .i64 pj, .int .i64 pt, .int .i64 nw, .int .i64 la, .slice ea en ec, .slice ka kn kc, .int .i64 tu, .slice fa fn fc, .slice ra rn rc, .int .i64 tk, .int .i64 ac, .int .i64 dr]] w fun e w' => BEnd w w' (liP kn de wi E K) e := by
  have hmm := @run_makeMap Tryd.prog
  obtain ⟨W0, hW0⟩ : ∃ W, W = w.alloc (.cells #[.int .i64 de, .int .i64 qu, .int .i64 wi, .int .i64 ti, .int .i64 qa, .int .i64 bu, .int .i64 le, .int .i64 pb, .int .i64 pc, .int .i64 pj, .int .i64 pt, .int .i64 nw, .int .i64 la, .slice ea en ec, .slice ka kn kc, .int .i64 tu, .slice fa fn fc, .slice ra rn rc, .int .i64 tk, .int .i64 ac, .int .i64 dr] 33) := ⟨_, rfl⟩
  have HA : Hid (Box W0 w.heap.size 33 [.int .i64 de, .int .i64 qu, .int .i64 wi, .int .i64 ti, .int .i64 qa, .int .i64 bu, .int .i64 le, .int .i64 pb, .int .i64 pc, .int .i64 pj, .int .i64 pt, .int .i64 nw, .int .i64 la, .slice ea en ec, .slice ka kn kc, .int .i64 tu, .slice fa fn fc, .slice ra rn rc, .int .i64 tk, .int .i64 ac, .int .i64 dr]) := Lib.hid (by rw [hW0]; exact Box.new w [.int .i64 de, .int .i64 qu, .int .i64 wi, .int .i64 ti, .int .i64 qa, .int .i64 bu, .int .i64 le, .int .i64 pb, .int .i64 pc, .int .i64 pj, .int .i64 pt, .int .i64 nw, .int .i64 la, .slice ea en ec, .slice ka kn kc, .int .i64 tu, .slice fa fn fc, .slice ra rn rc, .int .i64 tk, .int .i64 ac, .int .i64 dr] 33)
  have HL : Hid (Below w.heap.size w W0) := Lib.hid (by rw [hW0]; exact bOne _ _)
  have HWE := Lib.hid hW0
  have HSZ := Lib.hid (show w.heap.size + 1 = W0.heap.size by rw [hW0]; simp)
  have c0 := HA.out.cell 0 _ rfl
  have c14 := HA.out.cell 14 _ rfl
  have HT := Lib.hid h
  have HEW := Lib.hid hE
  have HKN := Lib.hid h.lk.hlen
  have hkl := h.lk.le
  unfold maxLen at hkl
  clear h hW0 hE
  by_cases hne : (kn : Int) = de
  rotate_left
  · have HNP := Lib.hid (show ¬ liP kn de wi E K from fun h => hne h.1)
    have hbb : ((kn : Int) != de) = true := by simp; omega
    go_enter Tryd.func30, Tryd.ntmps30
    go_upto_region 1 with fail
    rw [← HWE.out]
    go_wp2_with fail
    go_ret
    exact bend_no HNP.out HL.out
  have hbb : ((kn : Int) != de) = false := by simp; omega
  have HKD := Lib.hid hne
  have hk6 : kn ≤ 1000 := by omega
  clear hne
  go_enter Tryd.func30, Tryd.ntmps30
  go_upto_region 1 with fail
  rw [← HWE.out]
  clear HWE
  go_upto_region 4 with fail
  clear c0 c14 hbb
  have HM0 := Lib.hid (World.ownsMap_made (H := Unit) W0 Tryd.prog 3 (plainElem (H := Unit) Tryd.prog 3))
  have HB1 := Lib.hid (bOne W0 (.map #[] 0))
  obtain ⟨b, hb⟩ : ∃ b, b = W0.heap.size := ⟨_, rfl⟩
  rw [← hb] at HM0 ⊢
  have HA1 := Lib.hid (HA.out.below HB1.out)
  have HL1 := Lib.hid (low_after HL.out HB1.out)
  have HBS := Lib.hid (show b ≤ (W0.alloc (.map #[] 0)).heap.size by rw [hb]; simp)
  have HBW := Lib.hid (show w.heap.size < b by rw [hb]; have := HSZ.out; omega)
  have HG1 := Lib.hid (show GIs b (W0.alloc (.map #[] 0)) ea en ka kn fa fn ra rn E K F R from (HT.out.below (low_after HL.out HB1.out)).mono (Nat.le_of_lt HBW.out))
  clear hb HA HL HSZ HB1
  obtain ⟨W1, hW1⟩ : ∃ W, W = W0.alloc (.map #[] 0) := ⟨_, rfl⟩
  rw [← hW1] at HM0 HA1 HG1 HL1 HBS ⊢
  clear hW1
  have c14 := HA1.out.cell 14 _ rfl
  go_wp2_with fail
  clear c14
  go_loopw [17] (fun i wr => ∃ (j n : Nat) (D : DataW Unit) (M : List Int), j ≤ kn ∧ i = .int .i64 j ∧ Hid (∀ k, (h : k < K.length) → k < j → liGood wi ((k : Int) + 1) E K[k]) ∧ Hid (wr.ownsMap Tryd.prog 3 (plainElem (H := Unit) Tryd.prog 3) b n D) ∧ Hid (Below b W1 wr) ∧ Hid (b ≤ wr.heap.size)) (fun i _ => kn - (intOf i).toNat)
  case atStart => exact ⟨0, 0, _, [], by omega, rfl, Lib.hid (fun k _ hk => by omega), HM0, Lib.hid (Below.refl _ _), HBS⟩
  case round =>
    obtain ⟨j, n, D, M, hj, rfl, HQ, HM, HB, HS⟩ := hrel
    by_cases hlt : (j : Int) < (kn : Int)
    · have hjl : j < K.length := by have := HKN.out; omega
      obtain ⟨b', off, up, ep, sq, y, fa1, fl, fc1, rfl, hb', hlj, hy, p0, p1, p2, p3⟩ := HG1.out.lk.at j hjl
      have x0 := (HB.out.cell (p := ⟨b', off + j * 4, none⟩) hb').trans p0
      have x1 := (HB.out.cell (p := ⟨b', off + j * 4 + 1, none⟩) hb').trans p1
      have x2 := (HB.out.cell (p := ⟨b', off + j * 4 + 2, none⟩) hb').trans p2
      have x3 := (HB.out.cell (p := ⟨b', off + j * 4 + 3, none⟩) hb').trans p3
      have HJ := Lib.hid hlj
      have HYL := Lib.hid hy.hlen
      have hyle := hy.le
      unfold maxLen at hyle
      have HY := Lib.hid hy
      clear hlj hb' hy p0 p1 p2 p3
      obtain ⟨W2, hW2⟩ : ∃ W, W = wr.alloc (.cells #[.int .i64 j] 3) := ⟨_, rfl⟩
      obtain ⟨W3, hW3⟩ : ∃ W, W = W2.alloc (.cells #[.bool up, .int .i64 ep, .int .i64 sq, .slice fa1 fl fc1] 44) := ⟨_, rfl⟩
      have hb3 : Below W2.heap.size W2 W3 := by rw [hW3]; exact bOne _ _
      have hb2 : Below wr.heap.size wr W2 := by rw [hW2]; exact bOne _ _
      have HB23 := Lib.hid (low_after hb2 hb3)
      have HP := Lib.hid (show Box W3 wr.heap.size 3 [.int .i64 j] by
        have h1 : Box W2 wr.heap.size 3 [.int .i64 j] := by rw [hW2]; exact Box.new wr [.int .i64 j] 3
        exact h1.below hb3)
      have HZ2 := Lib.hid (show W2.heap.size = wr.heap.size + 1 by rw [hW2]; simp)
      have HLX := Lib.hid (show Box W3 (wr.heap.size + 1) 44 [.bool up, .int .i64 ep, .int .i64 sq, .slice fa1 fl fc1] by
        rw [hW3, ← HZ2.out]; exact Box.new W2 [.bool up, .int .i64 ep, .int .i64 sq, .slice fa1 fl fc1] 44)
      have HWE2 := Lib.hid hW2
      have HWE3 := Lib.hid hW3
      have HNO := Lib.hid (show ¬ liGood wi ((j : Int) + 1) E ⟨up, ep, sq, y⟩ → ¬ liP kn de wi E K from fun hn h => hn (by have := h.2 j hjl; rwa [HJ.out] at this))
      clear hW2 hW3 hb2 hb3
      go_upto_region 7 with fail
      rw [← HWE2.out, ← HWE3.out]
      clear x0 x1 x2 x3
      have x0 := HLX.out.cell 0 _ rfl
      have x1 := HLX.out.cell 1 _ rfl
      have x2 := HLX.out.cell 2 _ rfl
      have x3 := HLX.out.cell 3 _ rfl
      have HB3 := Lib.hid (show Below b W1 W3 from HB.out.trans (HB23.out.mono HS.out))
      have HS3 := Lib.hid (Nat.le_trans HS.out HB23.out.size)
      have HM3 := Lib.hid (World.ownsMap.kept HM.out (grown_of_below HB23.out none) (by simp))
      clear HB23 HWE2 HWE3
      go_wp2_with fail
      refine (Lnk.linkOk_any _ fa1 fl fc1 up ep sq y ((HY.out.below HB3.out).mono HS3.out)).mono ?_
      rintro e w4 ⟨rfl, hb⟩
      have HB4 := Lib.hid (HB3.out.trans (hb.mono HS3.out))
      have HS4 := Lib.hid (Nat.le_trans HS3.out hb.size)
      have HM4 := Lib.hid (World.ownsMap.kept HM3.out (grown_of_below hb none) (by simp))
      have HP4 := Lib.hid (HP.out.below hb)
      have HLX4 := Lib.hid (HLX.out.below hb)
      have HA4 := Lib.hid (HA1.out.low HB4.out HBW.out)
      have HG4 := Lib.hid (HG1.out.below HB4.out)
      clear hb HB3 HS3 HM3 HP HLX x0 x1 x2 x3
      have x3 := HLX4.out.cell 3 _ rfl
      have c2 := HA4.out.cell 2 _ rfl
      have c13 := HA4.out.cell 13 _ rfl
      have HLF := Lib.hid (show Below w.heap.size w w4 from HL1.out.trans (HB4.out.mono (Nat.le_of_lt HBW.out)))
      cases hlok : lokB up ep sq y with
      | false =>
        have HNP := Lib.hid (HNO.out (fun h => by have := (lok_of hlok).2 h.1; cases this))
        clear hlok
        go_wp2_with fail
        go_ret
        exact bend_no HNP.out HLF.out
      | true =>
      have HLK := Lib.hid ((lok_of hlok).1 rfl)
      clear hlok
      by_cases hwi : wi < (fl : Int)
      · have HNP := Lib.hid (HNO.out (fun h => by have := h.2.1; have h2 := HYL.out; dsimp only at this; omega))
        go_wp2_with fail
        go_ret
        exact bend_no HNP.out HLF.out
      have HWI := Lib.hid hwi
      go_wp2_with fail
      refine (fill1_any 53 ⟨wr.heap.size, 0, none⟩ (isFly ((j : Int) + 1)) w4 b b n D ea en ec E (Nat.le_refl _) HS4.out HG4.out.ev HEW.out (by omega) HM4.out enters_fly (fun w1 i d c bd at_ t r n s hg => fly_any i d c bd at_ t r n s wr.heap.size 0 (j : Int) w1 (by omega) (hg.cell (a := ⟨wr.heap.size, 0, none⟩) (HP4.out.cell 0 _ rfl) (fun e => by injection e with e; have h1 := HM.out.lt; dsimp only at e; omega)))).mono ?_
      rintro e w5 ⟨rfl, ⟨D5, hM5, _⟩, hg⟩
      have HBB := Lib.hid (show Below b w4 w5 from (Below.refl _ _).grown hg HS4.out (fun k e => by cases e; exact Nat.le_refl _))
      have HB5 := Lib.hid (HB4.out.trans HBB.out)
      have HS5 := Lib.hid (Nat.le_trans HS4.out HBB.out.size)
      have HLX5 := Lib.hid (HLX4.out.grown hg (fun e => by injection e with e; have h1 := HM.out.lt; omega))
      have HM5 := Lib.hid hM5
      clear hM5 hg x3 c2 c13 HM4 HP4 HLX4 HA4 HG4 HLF hwi HBB
      have x3 := HLX5.out.cell 3 _ rfl
      have HFL := Lib.hid (show fl ≤ 8 by have := HLK.out.len; have := HYL.out; omega)
      go_wp2_with fail
      refine (Lnk.flyingIds_any _ fa1 fl fc1 y ((HY.out.below HB5.out).mono HS5.out) (by have := HFL.out; omega)).mono ?_
      rintro e w6 ⟨⟨a6, cap6, rfl, ho6⟩, hb⟩
      have HB6 := Lib.hid (HB5.out.trans (hb.mono HS5.out))
      have HS6 := Lib.hid (Nat.le_trans HS5.out hb.size)
      have HM6 := Lib.hid (HM5.out.below hb)
      have HI6 := Lib.hid (Lnk.IOwn.isN ho6)
      obtain ⟨m6, hm6⟩ : ∃ m, m = (idsL y).length := ⟨_, rfl⟩
      rw [← hm6] at HI6 ⊢
      have HM8 := Lib.hid (show m6 ≤ 2000000 by rw [hm6]; unfold idsL; rw [List.length_map]; have := HLK.out.len; omega)
      clear hb ho6 hm6 x3 HLX5 HM5 HB5 HS5
      go_wp2_with fail
      refine (meet_any w6 b en D5 _ a6 m6 cap6 (idsL y) HM6.out (fillK_nodup _ _) HI6.out (ids_wf HLK.out) HM8.out).mono ?_
      rintro e w7 ⟨⟨x, rfl, hx⟩, hg7, n7, D7, K7, hM7⟩
      have HB7 := Lib.hid (HB6.out.grown hg7 HS6.out (fun k e => by cases e; exact Nat.le_refl _))
      have HS7 := Lib.hid (Nat.le_trans HS6.out hg7.size)
      have HO7 := Lib.hid hM7.own
      have HLF := Lib.hid (show Below w.heap.size w w7 from HL1.out.trans (HB7.out.mono (Nat.le_of_lt HBW.out)))
      have HX := Lib.hid hx
      clear hx hg7 hM7 HB6 HS6 HM6 HI6
      cases x with
      | false =>
        have HNP := Lib.hid (HNO.out (fun h => by have := HX.out.2 h.2.2; cases this))
        go_wp2_with fail
        go_ret
        exact bend_no HNP.out HLF.out
      | true =>
        have HQ2 := Lib.hid (show ∀ k, (h : k < K.length) → k < j + 1 → liGood wi ((k : Int) + 1) E K[k] from fun k hk hkj => by
          rcases (show k < j ∨ k = j by omega) with h | rfl
          · exact HQ.out k hk h
          · rw [HJ.out]; exact ⟨HLK.out, by have h1 := HYL.out; have h2 := HWI.out; dsimp only; omega, HX.out.1 rfl⟩)
        go_wp2_with fail
        go_roundw
        case rel => exact ⟨j + 1, n7, D7, [], by omega, by go_num, HQ2, HO7, HB7, HS7⟩
        case measure => simp [intOf]; omega
    · have HYY := Lib.hid (show liP kn de wi E K from ⟨HKD.out, fun k hk => HQ.out k hk (by have := HKN.out; omega)⟩)
      have HLF := Lib.hid (show Below w.heap.size w wr from HL1.out.trans (HB.out.mono (Nat.le_of_lt HBW.out)))
      go_wp2_with fail
      go_ret
      exact bend_yes HYY.out HLF.out

end Go.Proofs.YtkndpkingmemoaaDoor.Gat
namespace Go.Proofs.YtkndpkingmemoaaDoor.Gat
open Go.RowKit
open Lnk (bOne bAfter IOwn IIs below_keep below_drew' low_after low_alloc)
set_option linter.unusedVariables false

section
variable {P : Program} {w : World} {ops : Array Oper} {rest : List Oper} {o : Oper} {a : Act} {Q : Exit → Act → World → Prop} {k : Nat} {T : TypeId} {l : List Value}
/-- a struct read whole, at an operation that a guard lets through -/
theorem wpList_loadg_box (hw : Region.wanted o (yielded ops a.tmps) = true) (p : Operand) (t : TypeId) (hop : o.op = .load t p) (hs : a.eval p = .pointer (some ⟨k, 0, none⟩)) (hb : Box w k T l) (fs : Array Field) (hu : P.underlying t = some (.struct fs)) (hi : (P.info? t).map (·.size) = some l.length)
    (h : wpList P ops Q rest (a.put o.dst (.agg l.toArray)) w) : wpList P ops Q (o :: rest) a w := by
  refine wpList_step fun K' hK' => ?_
  rw [if_pos hw]
  have hrun : (Instr.loadAt t (.pointer (some ⟨k, 0, none⟩))).run P w = .ok (.agg l.toArray) w := by
    simp only [Instr.loadAt, Instr.sureAddr, Sem.run_bind, Sem.run_pure, Result.andThen]
    exact run_loadVar_row w k T t l.toArray (0, 0) _ hb hu rfl (by simpa using hi)
  unfold Oper.wp
  simp only [execOp, hop, hs, Sem.run_bind, Sem.run_pure, hrun, Result.andThen_ok]
  exact hK' _ _ h
end
def gateP (de qu wi ti qa bu le pb pc pj pt nw la : Int) (en kn : Nat) (tu : Int) (fn rn : Nat) (tk ac dr : Int) (E : List Ev) (K : List Lk) (F R : List Int) : Prop :=
  CfgOk de qu wi ti qa bu le pb pc pj pt ∧ (0 ≤ nw ∧ nw ≤ 1000000000) ∧ (0 ≤ la ∧ la ≤ 9999) ∧ (en ≤ 60 ∧ evsP de la nw E) ∧ quP de qu E ∧ liP kn de wi E K ∧ shP de tu fn F ∧ leP rn le E R ∧ toP en tk ac dr

set_option maxRecDepth 100000 in
set_option maxHeartbeats 8000000 in
theorem implGateOk_any (w : World) (de qu wi ti qa bu le pb pc pj pt nw la : Int) (ea : Option Addr) (en ec : Nat) (ka : Option Addr) (kn kc : Nat) (tu : Int) (fa : Option Addr) (fn fc : Nat) (ra : Option Addr) (rn rc : Nat) (tk ac dr : Int) (E : List Ev) (K : List Lk) (F R : List Int) (hE : ∀ e ∈ E, (Lit.int .i64 e.i).wf = true) (hR : ∀ x ∈ R, (Lit.int .i64 x).wf = true) (hen : en ≤ 1048576) (hrn : rn ≤ 1048576) (h : GIs w.heap.size w ea en ka kn fa fn ra rn E K F R) :
    Calls Tryd.prog 13 #[.agg #[.int .i64 de, .int .i64 qu, .int .i64 wi, .int .i64 ti, .int .i64 qa, .int .i64 bu, .int .i64 le, .int .i64 pb, .int .i64 pc, .int .i64 pj, .int .i64 pt, .int .i64 nw, .int .i64 la, .slice ea en ec, .slice ka kn kc, .int .i64 tu, .slice fa fn fc, .slice ra rn rc, .int .i64 tk, .int .i64 ac, .int .i64 dr]] w fun e w' => BEnd w w' (gateP de qu wi ti qa bu le pb pc pj pt nw la en kn tu fn rn tk ac dr E K F R) e := by
  obtain ⟨W0, hW0⟩ : ∃ W, W = w.alloc (.cells #[.int .i64 de, .int .i64 qu, .int .i64 wi, .int .i64 ti, .int .i64 qa, .int .i64 bu, .int .i64 le, .int .i64 pb, .int .i64 pc, .int .i64 pj, .int .i64 pt, .int .i64 nw, .int .i64 la, .slice ea en ec, .slice ka kn kc, .int .i64 tu, .slice fa fn fc, .slice ra rn rc, .int .i64 tk, .int .i64 ac, .int .i64 dr] 33) := ⟨_, rfl⟩
  have HA : Hid (Box W0 w.heap.size 33 [.int .i64 de, .int .i64 qu, .int .i64 wi, .int .i64 ti, .int .i64 qa, .int .i64 bu, .int .i64 le, .int .i64 pb, .int .i64 pc, .int .i64 pj, .int .i64 pt, .int .i64 nw, .int .i64 la, .slice ea en ec, .slice ka kn kc, .int .i64 tu, .slice fa fn fc, .slice ra rn rc, .int .i64 tk, .int .i64 ac, .int .i64 dr]) := Lib.hid (by rw [hW0]; exact Box.new w [.int .i64 de, .int .i64 qu, .int .i64 wi, .int .i64 ti, .int .i64 qa, .int .i64 bu, .int .i64 le, .int .i64 pb, .int .i64 pc, .int .i64 pj, .int .i64 pt, .int .i64 nw, .int .i64 la, .slice ea en ec, .slice ka kn kc, .int .i64 tu, .slice fa fn fc, .slice ra rn rc, .int .i64 tk, .int .i64 ac, .int .i64 dr] 33)
  have HL : Hid (Below w.heap.size w W0) := Lib.hid (by rw [hW0]; exact bOne _ _)
  have HWE := Lib.hid hW0
  have HT := Lib.hid (show GIs W0.heap.size W0 ea en ka kn fa fn ra rn E K F R from by rw [hW0]; exact h.here (bOne _ _))
  have HEW := Lib.hid hE
  have HRW := Lib.hid hR
  have HEN := Lib.hid hen
  have HRN := Lib.hid hrn
  clear h hW0 hE hR hen hrn
  have c0 := HA.out.cell 0 _ rfl
  have c1 := HA.out.cell 1 _ rfl
  have c2 := HA.out.cell 2 _ rfl
  have c3 := HA.out.cell 3 _ rfl
  have c4 := HA.out.cell 4 _ rfl
  have c5 := HA.out.cell 5 _ rfl
  have c6 := HA.out.cell 6 _ rfl
  have c7 := HA.out.cell 7 _ rfl
  have c8 := HA.out.cell 8 _ rfl
  have c9 := HA.out.cell 9 _ rfl
  have c10 := HA.out.cell 10 _ rfl
  have c11 := HA.out.cell 11 _ rfl
  have c12 := HA.out.cell 12 _ rfl
  go_enter Tryd.func13, Tryd.ntmps13
  go_upto_region 1 with fail
  rw [← HWE.out]
  clear HWE
  go_wp2_with fail
  refine (implCfg_any de qu wi ti qa bu le pb pc pj pt _).mono ?_
  rintro e w1 ⟨rfl, hb⟩
  replace HA := Lib.hid (HA.out.below hb)
  replace HL := Lib.hid (low_after HL.out hb)
  replace HT := Lib.hid (HT.out.here hb)
  clear hb c0 c1 c2 c3 c4 c5 c6 c7 c8 c9 c10 c11 c12
  obtain ⟨x, hx⟩ : ∃ x, x = cfgB de qu wi ti qa bu le pb pc pj pt := ⟨_, rfl⟩
  rw [← hx]
  have HX := Lib.hid hx
  clear hx
  cases x with
  | false =>
    have HNP := Lib.hid (show ¬ (gateP de qu wi ti qa bu le pb pc pj pt nw la en kn tu fn rn tk ac dr E K F R) from fun h => by have := cfgB_yes h.1; rw [← HX.out] at this; cases this)
    go_wp2_with fail
    go_ret
    exact bend_no HNP.out HL.out
  | true =>
  have HCF := Lib.hid (show CfgOk de qu wi ti qa bu le pb pc pj pt from of_decide_eq_true HX.out.symm)
  clear HX
  have c11 := HA.out.cell 11 _ rfl
  have c12 := HA.out.cell 12 _ rfl

  by_cases ga : nw < 0
  · have HNP := Lib.hid (show ¬ (gateP de qu wi ti qa bu le pb pc pj pt nw la en kn tu fn rn tk ac dr E K F R) from fun h => by have := h.2.1; omega)
    go_wp2_with fail
    go_ret
    exact bend_no HNP.out HL.out

  by_cases gb : 1000000000 < nw
  · have HNP := Lib.hid (show ¬ (gateP de qu wi ti qa bu le pb pc pj pt nw la en kn tu fn rn tk ac dr E K F R) from fun h => by have := h.2.1; omega)
    go_wp2_with fail
    go_ret
    exact bend_no HNP.out HL.out

  by_cases gc : la < 0
  · have HNP := Lib.hid (show ¬ (gateP de qu wi ti qa bu le pb pc pj pt nw la en kn tu fn rn tk ac dr E K F R) from fun h => by have := h.2.2.1; omega)
    go_wp2_with fail
    go_ret
    exact bend_no HNP.out HL.out

  by_cases gd : 9999 < la
  · have HNP := Lib.hid (show ¬ (gateP de qu wi ti qa bu le pb pc pj pt nw la en kn tu fn rn tk ac dr E K F R) from fun h => by have := h.2.2.1; omega)
    go_wp2_with fail
    go_ret
    exact bend_no HNP.out HL.out

  have GNW := Lib.hid (show 0 ≤ nw ∧ nw ≤ 1000000000 by omega)
  have GLA := Lib.hid (show 0 ≤ la ∧ la ≤ 9999 by omega)
  go_wp2_with (first | (refine wpList_loadg_box (by rfl) _ 33 rfl rfl HA.out _ Tryd.underlying33 sizeGate ?_) | fail)
  refine (implEvents_any _ de qu wi ti qa bu le pb pc pj pt nw la ea en ec ka kn kc tu fa fn fc ra rn rc tk ac dr E K F R HT.out).mono ?_
  rintro e v0 ⟨⟨x, rfl, hx⟩, hb⟩
  replace HA := Lib.hid (HA.out.below hb)
  replace HL := Lib.hid (low_after HL.out hb)
  replace HT := Lib.hid (HT.out.here hb)
  have HX := Lib.hid hx
  clear hx hb c11 c12
  cases x with
  | false =>
    have HNP := Lib.hid (show ¬ (gateP de qu wi ti qa bu le pb pc pj pt nw la en kn tu fn rn tk ac dr E K F R) from fun h => by have := HX.out.2 h.2.2.2.1; cases this)
    go_wp2_with fail
    go_ret
    exact bend_no HNP.out HL.out
  | true =>
  have P0 := Lib.hid (HX.out.1 rfl)
  clear HX
  go_wp2_with (first | (refine wpList_loadg_box (by rfl) _ 33 rfl rfl HA.out _ Tryd.underlying33 sizeGate ?_) | fail)
  refine (implQueues_any _ de qu wi ti qa bu le pb pc pj pt nw la ea en ec ka kn kc tu fa fn fc ra rn rc tk ac dr E K F R (by have := HCF.out.2.1; omega) HT.out).mono ?_
  rintro e v1 ⟨⟨x, rfl, hx⟩, hb⟩
  replace HA := Lib.hid (HA.out.below hb)
  replace HL := Lib.hid (low_after HL.out hb)
  replace HT := Lib.hid (HT.out.here hb)
  have HX := Lib.hid hx
  clear hx hb
  cases x with
  | false =>
    have HNP := Lib.hid (show ¬ (gateP de qu wi ti qa bu le pb pc pj pt nw la en kn tu fn rn tk ac dr E K F R) from fun h => by have := HX.out.2 h.2.2.2.2.1; cases this)
    go_wp2_with fail
    go_ret
    exact bend_no HNP.out HL.out
  | true =>
  have P1 := Lib.hid (HX.out.1 rfl)
  clear HX
  go_wp2_with (first | (refine wpList_loadg_box (by rfl) _ 33 rfl rfl HA.out _ Tryd.underlying33 sizeGate ?_) | fail)
  refine (implLinks_any _ de qu wi ti qa bu le pb pc pj pt nw la ea en ec ka kn kc tu fa fn fc ra rn rc tk ac dr E K F R HEW.out HEN.out (by have := HCF.out.2.1; omega) HT.out).mono ?_
  rintro e v2 ⟨⟨x, rfl, hx⟩, hb⟩
  replace HA := Lib.hid (HA.out.below hb)
  replace HL := Lib.hid (low_after HL.out hb)
  replace HT := Lib.hid (HT.out.here hb)
  have HX := Lib.hid hx
  clear hx hb
  cases x with
  | false =>
    have HNP := Lib.hid (show ¬ (gateP de qu wi ti qa bu le pb pc pj pt nw la en kn tu fn rn tk ac dr E K F R) from fun h => by have := HX.out.2 h.2.2.2.2.2.1; cases this)
    go_wp2_with fail
    go_ret
    exact bend_no HNP.out HL.out
  | true =>
  have P2 := Lib.hid (HX.out.1 rfl)
  clear HX
  go_wp2_with (first | (refine wpList_loadg_box (by rfl) _ 33 rfl rfl HA.out _ Tryd.underlying33 sizeGate ?_) | fail)
  refine (implShares_any _ de qu wi ti qa bu le pb pc pj pt nw la ea en ec ka kn kc tu fa fn fc ra rn rc tk ac dr E K F R HT.out).mono ?_
  rintro e v3 ⟨⟨x, rfl, hx⟩, hb⟩
  replace HA := Lib.hid (HA.out.below hb)
  replace HL := Lib.hid (low_after HL.out hb)
  replace HT := Lib.hid (HT.out.here hb)
  have HX := Lib.hid hx
  clear hx hb
  cases x with
  | false =>
    have HNP := Lib.hid (show ¬ (gateP de qu wi ti qa bu le pb pc pj pt nw la en kn tu fn rn tk ac dr E K F R) from fun h => by have := HX.out.2 h.2.2.2.2.2.2.1; cases this)
    go_wp2_with fail
    go_ret
    exact bend_no HNP.out HL.out
  | true =>
  have P3 := Lib.hid (HX.out.1 rfl)
  clear HX
  go_wp2_with (first | (refine wpList_loadg_box (by rfl) _ 33 rfl rfl HA.out _ Tryd.underlying33 sizeGate ?_) | fail)
  refine (implLetters_any _ de qu wi ti qa bu le pb pc pj pt nw la ea en ec ka kn kc tu fa fn fc ra rn rc tk ac dr E K F R HEW.out HRW.out HEN.out HRN.out HT.out).mono ?_
  rintro e v4 ⟨⟨x, rfl, hx⟩, hb⟩
  replace HA := Lib.hid (HA.out.below hb)
  replace HL := Lib.hid (low_after HL.out hb)
  replace HT := Lib.hid (HT.out.here hb)
  have HX := Lib.hid hx
  clear hx hb
  cases x with
  | false =>
    have HNP := Lib.hid (show ¬ (gateP de qu wi ti qa bu le pb pc pj pt nw la en kn tu fn rn tk ac dr E K F R) from fun h => by have := HX.out.2 h.2.2.2.2.2.2.2.1; cases this)
    go_wp2_with fail
    go_ret
    exact bend_no HNP.out HL.out
  | true =>
  have P4 := Lib.hid (HX.out.1 rfl)
  clear HX
  go_wp2_with (first | (refine wpList_loadg_box (by rfl) _ 33 rfl rfl HA.out _ Tryd.underlying33 sizeGate ?_) | fail)
  refine (implTotals_any _ de qu wi ti qa bu le pb pc pj pt nw la ea en ec ka kn kc tu fa fn fc ra rn rc tk ac dr E K F R HEN.out).mono ?_
  rintro e v5 ⟨⟨x, rfl, hx⟩, hb⟩
  replace HA := Lib.hid (HA.out.below hb)
  replace HL := Lib.hid (low_after HL.out hb)
  replace HT := Lib.hid (HT.out.here hb)
  have HX := Lib.hid hx
  clear hx hb
  cases x with
  | false =>
    have HNP := Lib.hid (show ¬ (gateP de qu wi ti qa bu le pb pc pj pt nw la en kn tu fn rn tk ac dr E K F R) from fun h => by have := HX.out.2 h.2.2.2.2.2.2.2.2; cases this)
    go_wp2_with fail
    go_ret
    exact bend_no HNP.out HL.out
  | true =>
  have P5 := Lib.hid (HX.out.1 rfl)
  clear HX
  have HY := Lib.hid (show (gateP de qu wi ti qa bu le pb pc pj pt nw la en kn tu fn rn tk ac dr E K F R) from ⟨HCF.out, GNW.out, GLA.out, P0.out, P1.out, P2.out, P3.out, P4.out, P5.out⟩)
  go_wp2_with fail
  go_ret
  exact bend_yes HY.out HL.out

end Go.Proofs.YtkndpkingmemoaaDoor.Gat
