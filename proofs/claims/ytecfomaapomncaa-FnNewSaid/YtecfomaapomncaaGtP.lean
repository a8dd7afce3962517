/-
  OpenOf: the walks, of the specification and of the program.
-/
import Derived.Test.YtecfomaapomncaaGtO
namespace Go.Proofs.Ytecfomaapomncaa.Gat
open Go.RowKit
open Lnk (bOne bAfter IOwn IIs below_keep below_drew' bcell low_after low_alloc)
set_option linter.unusedVariables false

set_option maxRecDepth 100000 in
set_option maxHeartbeats 4000000 in
theorem specOpenOf_any (w : World) (de qu wi ti qa bu le pb pc pj pt nw la : Int) (ea : Option Addr) (en ec : Nat) (ka : Option Addr) (kn kc : Nat) (tu : Int) (fa : Option Addr) (fn fc : Nat) (ra : Option Addr) (rn rc : Nat) (tk ac dr : Int) (E : List Ev) (K : List Lk) (F R : List Int) (d : Int) (h : GIs w.heap.size w ea en ka kn fa fn ra rn E K F R) :
    Calls Try.prog 28 #[.agg #[.int .i64 de, .int .i64 qu, .int .i64 wi, .int .i64 ti, .int .i64 qa, .int .i64 bu, .int .i64 le, .int .i64 pb, .int .i64 pc, .int .i64 pj, .int .i64 pt, .int .i64 nw, .int .i64 la, .slice ea en ec, .slice ka kn kc, .int .i64 tu, .slice fa fn fc, .slice ra rn rc, .int .i64 tk, .int .i64 ac, .int .i64 dr], .int .i64 d] w fun e w' => e = .returned (.int .i64 (openN d E)) ∧ Below w.heap.size w w' := by
  obtain ⟨W0, hW0⟩ : ∃ W, W = w.alloc (.cells #[.int .i64 de, .int .i64 qu, .int .i64 wi, .int .i64 ti, .int .i64 qa, .int .i64 bu, .int .i64 le, .int .i64 pb, .int .i64 pc, .int .i64 pj, .int .i64 pt, .int .i64 nw, .int .i64 la, .slice ea en ec, .slice ka kn kc, .int .i64 tu, .slice fa fn fc, .slice ra rn rc, .int .i64 tk, .int .i64 ac, .int .i64 dr] 33) := ⟨_, rfl⟩
  have hA : Box W0 w.heap.size 33 [.int .i64 de, .int .i64 qu, .int .i64 wi, .int .i64 ti, .int .i64 qa, .int .i64 bu, .int .i64 le, .int .i64 pb, .int .i64 pc, .int .i64 pj, .int .i64 pt, .int .i64 nw, .int .i64 la, .slice ea en ec, .slice ka kn kc, .int .i64 tu, .slice fa fn fc, .slice ra rn rc, .int .i64 tk, .int .i64 ac, .int .i64 dr] := by rw [hW0]; exact Box.new w [.int .i64 de, .int .i64 qu, .int .i64 wi, .int .i64 ti, .int .i64 qa, .int .i64 bu, .int .i64 le, .int .i64 pb, .int .i64 pc, .int .i64 pj, .int .i64 pt, .int .i64 nw, .int .i64 la, .slice ea en ec, .slice ka kn kc, .int .i64 tu, .slice fa fn fc, .slice ra rn rc, .int .i64 tk, .int .i64 ac, .int .i64 dr] 33
  have HL : Hid (Below w.heap.size w W0) := Lib.hid (by rw [hW0]; exact bOne _ _)
  have HT := Lib.hid (h.here HL.out)
  have hle := h.ev.row.le
  have hN := h.ev.row.hlen
  unfold maxLen at hle
  have HSUM := Lib.hid (openN_eq d E)
  have HSS := Lib.hid (show Ending.returned (Value.int IntKind.i64 (IntKind.i64.wrap ((cntN d 0 E : Int) + (cntN d 1 E : Int)))) = Ending.returned (Value.int IntKind.i64 ((cntN d 0 E + cntN d 1 E : Nat) : Int)) by
    have h1 := openN_eq d E
    have h2 := openN_le d E
    rw [IntWalk.i64_in _ (by omega)]
    simp)
  have HWE := Lib.hid hW0
  clear h hW0 hN hle
  go_enter Try.func28, Try.ntmps28
  go_wp2_with fail
  rw [← HWE.out]
  have HQ := Lib.hid (show Below W0.heap.size W0 W0.drew from below_drew' (Below.refl _ _))
  refine wp_region_held_drew (S := fun w' => Box w' w.heap.size 33 [.int .i64 de, .int .i64 qu, .int .i64 wi, .int .i64 ti, .int .i64 qa, .int .i64 bu, .int .i64 le, .int .i64 pb, .int .i64 pc, .int .i64 pj, .int .i64 pt, .int .i64 nw, .int .i64 la, .slice ea en ec, .slice ka kn kc, .int .i64 tu, .slice fa fn fc, .slice ra rn rc, .int .i64 tk, .int .i64 ac, .int .i64 dr]) (by kernel_rfl) (hA.below HQ.out) (fun hHeld => ?_)
  clear hA
  refine wpAnyH_take (i := 0) (oi := { dst := some _, op := _, type := _, pos := _, after := _, guard := _ }) (v := ?_) rfl (by kernel_rfl) (by kernel_rfl) (by kernel_rfl) (fun _ _ _ h => h) ?_ (by with_reducible assumption) ?_
  rotate_left 1
  focus (refine Or.inl ⟨by rfl, ?_⟩; intro wq hSw; refine exec_load_box ?_ 33 ?_ ?_ hSw _ Try.underlying33 sizeGate; rotate_left 1; rfl; rfl)
  try simp only [Act.put, List.setIfInBounds_toArray, List.set_cons_zero, List.set_cons_succ]
  refine wpAnyH_take (i := 1) (oi := { dst := some _, op := _, type := _, pos := _, after := _, guard := _ }) (v := ?_) rfl (by kernel_rfl) (by kernel_rfl) (by kernel_rfl) (fun _ _ _ h => h) ?_ (by with_reducible assumption) ?_
  rotate_left 1
  focus (refine Or.inl ⟨by rfl, ?_⟩; intro wq hSw; go_simp; try with_reducible rfl)
  try simp only [Act.put, List.setIfInBounds_toArray, List.set_cons_zero, List.set_cons_succ]
  refine wpAnyH_take (i := 3) (oi := { dst := some _, op := _, type := _, pos := _, after := _, guard := _ }) (v := ?_) rfl (by kernel_rfl) (by kernel_rfl) (by kernel_rfl) (fun _ _ _ h => h) ?_ (by with_reducible assumption) ?_
  rotate_left 1
  focus (refine Or.inl ⟨by rfl, ?_⟩; intro wq hSw; refine exec_load_box ?_ 33 ?_ ?_ hSw _ Try.underlying33 sizeGate; rotate_left 1; rfl; rfl)
  try simp only [Act.put, List.setIfInBounds_toArray, List.set_cons_zero, List.set_cons_succ]
  refine wpAnyH_take (i := 4) (oi := { dst := some _, op := _, type := _, pos := _, after := _, guard := _ }) (v := ?_) rfl (by kernel_rfl) (by kernel_rfl) (by kernel_rfl) (fun _ _ _ h => h) ?_ (by with_reducible assumption) ?_
  rotate_left 1
  focus (refine Or.inl ⟨by rfl, ?_⟩; intro wq hSw; go_simp; try with_reducible rfl)
  try simp only [Act.put, List.setIfInBounds_toArray, List.set_cons_zero, List.set_cons_succ]
  refine wpAnyH_ready (rs := [2]) (by kernel_rfl) (by simp) ?_
  refine AllReadyH.cons rfl (fun KA hKA => ?_) AllReadyH.nil
  go_simp
  refine (count_any _ de qu wi ti qa bu le pb pc pj pt nw la ea en ec ka kn kc tu fa fn fc ra rn rc tk ac dr E K F R d 0 (HT.out.here HQ.out)).mono ?_
  rintro e wKA ⟨rfl, hb⟩
  have HBKA := Lib.hid (hHeld.below hb)
  have HQ := Lib.hid (low_after HQ.out hb)
  clear hb hHeld
  dsimp only
  refine hKA.out _ _ (HBKA.out) (fun hHeld => ?_)
  clear hKA
  try simp only [Act.put, List.setIfInBounds_toArray, List.set_cons_zero, List.set_cons_succ]
  refine wpAnyH_ready (rs := [5]) (by kernel_rfl) (by simp) ?_
  refine AllReadyH.cons rfl (fun KB hKB => ?_) AllReadyH.nil
  go_simp
  refine (count_any _ de qu wi ti qa bu le pb pc pj pt nw la ea en ec ka kn kc tu fa fn fc ra rn rc tk ac dr E K F R d 1 (HT.out.here HQ.out)).mono ?_
  rintro e wKB ⟨rfl, hb⟩
  have HBKB := Lib.hid (hHeld.below hb)
  have HQ := Lib.hid (low_after HQ.out hb)
  clear hb hHeld
  dsimp only
  refine hKB.out _ _ (HBKB.out) (fun hHeld => ?_)
  clear hKB
  try simp only [Act.put, List.setIfInBounds_toArray, List.set_cons_zero, List.set_cons_succ]
  refine wpAnyH_take (i := 6) (oi := { dst := some _, op := _, type := _, pos := _, after := _, guard := _ }) (v := ?_) rfl (by kernel_rfl) (by kernel_rfl) (by kernel_rfl) (fun _ _ _ h => h) ?_ (by with_reducible assumption) ?_
  rotate_left 1
  focus (refine Or.inl ⟨by rfl, ?_⟩; intro wq hSw; go_simp; try with_reducible rfl)
  try simp only [Act.put, List.setIfInBounds_toArray, List.set_cons_zero, List.set_cons_succ]
  refine wpAnyH_take (i := 7) (oi := { dst := some _, op := _, type := _, pos := _, after := _, guard := _ }) (v := ?_) rfl (by kernel_rfl) (by kernel_rfl) (by kernel_rfl) (fun _ _ _ h => h) ?_ (by with_reducible assumption) ?_
  rotate_left 1
  focus (refine Or.inl ⟨by rfl, ?_⟩; intro wq hSw; go_simp; try with_reducible rfl)
  try simp only [Act.put, List.setIfInBounds_toArray, List.set_cons_zero, List.set_cons_succ]
  refine wpAnyH_done (by kernel_rfl) ?_ _
  go_wp2_with fail
  go_ret
  exact ⟨by rw [HSUM.out]; exact HSS.out, low_after HL.out HQ.out⟩

set_option maxRecDepth 100000 in
set_option maxHeartbeats 4000000 in
theorem implOpenOf_any (w : World) (de qu wi ti qa bu le pb pc pj pt nw la : Int) (ea : Option Addr) (en ec : Nat) (ka : Option Addr) (kn kc : Nat) (tu : Int) (fa : Option Addr) (fn fc : Nat) (ra : Option Addr) (rn rc : Nat) (tk ac dr : Int) (E : List Ev) (K : List Lk) (F R : List Int) (d : Int) (h : GIs w.heap.size w ea en ka kn fa fn ra rn E K F R) :
    Calls Try.prog 17 #[.agg #[.int .i64 de, .int .i64 qu, .int .i64 wi, .int .i64 ti, .int .i64 qa, .int .i64 bu, .int .i64 le, .int .i64 pb, .int .i64 pc, .int .i64 pj, .int .i64 pt, .int .i64 nw, .int .i64 la, .slice ea en ec, .slice ka kn kc, .int .i64 tu, .slice fa fn fc, .slice ra rn rc, .int .i64 tk, .int .i64 ac, .int .i64 dr], .int .i64 d] w fun e w' => e = .returned (.int .i64 (openN d E)) ∧ Below w.heap.size w w' := by
  obtain ⟨W0, hW0⟩ : ∃ W, W = w.alloc (.cells #[.int .i64 de, .int .i64 qu, .int .i64 wi, .int .i64 ti, .int .i64 qa, .int .i64 bu, .int .i64 le, .int .i64 pb, .int .i64 pc, .int .i64 pj, .int .i64 pt, .int .i64 nw, .int .i64 la, .slice ea en ec, .slice ka kn kc, .int .i64 tu, .slice fa fn fc, .slice ra rn rc, .int .i64 tk, .int .i64 ac, .int .i64 dr] 33) := ⟨_, rfl⟩
  have HA : Hid (Box W0 w.heap.size 33 [.int .i64 de, .int .i64 qu, .int .i64 wi, .int .i64 ti, .int .i64 qa, .int .i64 bu, .int .i64 le, .int .i64 pb, .int .i64 pc, .int .i64 pj, .int .i64 pt, .int .i64 nw, .int .i64 la, .slice ea en ec, .slice ka kn kc, .int .i64 tu, .slice fa fn fc, .slice ra rn rc, .int .i64 tk, .int .i64 ac, .int .i64 dr]) := Lib.hid (by rw [hW0]; exact Box.new w [.int .i64 de, .int .i64 qu, .int .i64 wi, .int .i64 ti, .int .i64 qa, .int .i64 bu, .int .i64 le, .int .i64 pb, .int .i64 pc, .int .i64 pj, .int .i64 pt, .int .i64 nw, .int .i64 la, .slice ea en ec, .slice ka kn kc, .int .i64 tu, .slice fa fn fc, .slice ra rn rc, .int .i64 tk, .int .i64 ac, .int .i64 dr] 33)
  have HL : Hid (Below w.heap.size w W0) := Lib.hid (by rw [hW0]; exact bOne _ _)
  have HT := Lib.hid (h.ev)
  have HN := Lib.hid HT.out.row.hlen
  have hle := HT.out.row.le
  unfold maxLen at hle
  have HWE := Lib.hid hW0
  clear h hW0
  have c13 := HA.out.cell 13 _ rfl
  go_enter Try.func17, Try.ntmps17
  go_wp2_with fail
  rw [← HWE.out]
  clear c13
  go_loopw [5, 11] (fun nv i wr => ∃ j : Nat, j ≤ en ∧ i = .int .i64 j ∧ nv = .int .i64 (openN d (E.take j)) ∧ Hid (Below w.heap.size w wr) ∧ Hid (Box wr w.heap.size 33 [.int .i64 de, .int .i64 qu, .int .i64 wi, .int .i64 ti, .int .i64 qa, .int .i64 bu, .int .i64 le, .int .i64 pb, .int .i64 pc, .int .i64 pj, .int .i64 pt, .int .i64 nw, .int .i64 la, .slice ea en ec, .slice ka kn kc, .int .i64 tu, .slice fa fn fc, .slice ra rn rc, .int .i64 tk, .int .i64 ac, .int .i64 dr])) (fun _ i _ => en - (intOf i).toNat)
  case atStart => exact ⟨0, by omega, rfl, rfl, HL, HA⟩
  case round =>
    obtain ⟨j, hj, rfl, rfl, HB, HX0⟩ := hrel
    by_cases hlt : (j : Int) < (en : Int)
    · have hjl : j < E.length := by have := HN.out; omega
      obtain ⟨b', off, i', d', c', bd', a', t', r', n', s', rfl, hb', hlj, hbd', x0, x1, x2, x3, x4, x5, x6, x7, x8⟩ := (HT.out.below HB.out).at j hjl
      have HX := Lib.hid (cnt_next (p := isO d) hjl)
      have HJ := Lib.hid (show isO d E[j] = ((d' == d) && Evt.openB s') by rw [hlj]; rfl)
      have HM := Lib.hid (openN_le d (E.take j))
      have HK := Lib.hid (List.length_take_le j E)
      clear hlj
      obtain ⟨m, hm⟩ : ∃ m, m = openN d (E.take j) := ⟨_, rfl⟩
      rw [← hm]
      have HMM := Lib.hid hm
      have hmb : m ≤ j := by have := HM.out; rw [← hm] at this; exact Nat.le_trans this HK.out
      clear hm hb'
      have HB1 := Lib.hid (bOne wr (.cells #[.int .i64 i', .int .i64 d', .int .i64 c', .string bd', .int .i64 a', .int .i64 t', .int .i64 r', .int .i64 n', .int .i64 s'] 65))
      have HE := Lib.hid (Evt.B9.new wr i' d' c' bd' a' t' r' n' s' 65)
      have HL1 := Lib.hid (bAfter HB.out HB1.out HB.out.size)
      have HX1 := Lib.hid (HX0.out.below HB1.out)
      cases h1 : (d' == d) with
      | false =>
          have HC := Lib.hid (show Value.int IntKind.i64 (m : Int) = Value.int IntKind.i64 (openN d (E.take (j + 1)) : Int) by
            have h := HX.out
            rw [HJ.out, h1] at h
            rw [HMM.out, show openN d (E.take (j + 1)) = openN d (E.take j) by unfold openN; rw [h]; simp])
          have HLN := HL1
          have HAN := HX1
          go_wp2_with fail
          go_roundw
          case rel => exact ⟨j + 1, by omega, by go_num, HC.out, HLN, HAN⟩
          case measure => simp [intOf]; omega
      | true =>
        go_wp2_with fail
        refine (Evt.msg_any i' d' c' bd' a' t' r' n' s' _).mono ?_
        rintro e w2 ⟨rfl, hb2⟩
        have HL2 := Lib.hid (bAfter HL1.out hb2 HL1.out.size)
        have HX2 := Lib.hid (HX1.out.below hb2)
        clear hb2
        go_wp2_with fail
        refine (Evt.open_any a' t' n' s' _).mono ?_
        rintro e w3 ⟨rfl, hb3⟩
        have HLN := Lib.hid (bAfter HL2.out hb3 HL2.out.size)
        have HAN := Lib.hid (HX2.out.below hb3)
        clear hb3 x0 x1 x2 x3 x4 x5 x6 x7 x8
        cases h2 : Evt.openB s' with
        | false =>
          have HC := Lib.hid (show Value.int IntKind.i64 (m : Int) = Value.int IntKind.i64 (openN d (E.take (j + 1)) : Int) by
            have h := HX.out
            rw [HJ.out, h1, h2] at h
            rw [HMM.out, show openN d (E.take (j + 1)) = openN d (E.take j) by unfold openN; rw [h]; simp])
          go_wp2_with fail
          go_roundw
          case rel => exact ⟨j + 1, by omega, by go_num, HC.out, HLN, HAN⟩
          case measure => simp [intOf]; omega
        | true =>
          have HC := Lib.hid (show Value.int IntKind.i64 ((m : Int) + 1) = Value.int IntKind.i64 (openN d (E.take (j + 1)) : Int) by
            have h := HX.out
            rw [HJ.out, h1, h2] at h
            rw [HMM.out, show openN d (E.take (j + 1)) = openN d (E.take j) + 1 by unfold openN; rw [h]; simp]
            simp)
          go_wp2_with fail
          go_roundw
          case rel => exact ⟨j + 1, by omega, by go_num, HC.out, HLN, HAN⟩
          case measure => simp [intOf]; omega
    · have hjl : j = E.length := by have := HN.out; omega
      have HJ := Lib.hid hjl
      clear hjl
      go_wp2_with fail
      go_ret
      exact ⟨by rw [HJ.out, List.take_length]; rfl, HB.out⟩

end Go.Proofs.Ytecfomaapomncaa.Gat
