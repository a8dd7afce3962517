/-
  Queues, shares and totals of a right gate: the walks of the program's tests.
-/
import Derived.Test.YtecfomaapomncaaGtEv
import Derived.Test.YtecfomaapomncaaGtP
namespace Go.Proofs.Ytecfomaapomncaa.Gat
open Go.RowKit
open Lnk (bOne bAfter IOwn IIs below_keep below_drew' low_after low_alloc)
set_option linter.unusedVariables false

def quP (de qu : Int) (l : List Ev) : Prop := ∀ k : Nat, (k : Int) < de → (openN ((k : Int) + 1) l : Int) ≤ qu
def shP (de tu : Int) (fn : Nat) (F : List Int) : Prop := 0 ≤ tu ∧ tu < de ∧ (fn : Int) = de ∧ ∀ x ∈ F, 0 ≤ x ∧ x ≤ 1000
def toP (en : Nat) (tk ac dr : Int) : Prop := (0 ≤ tk ∧ tk ≤ 9999) ∧ (0 ≤ ac ∧ ac ≤ 9999) ∧ (0 ≤ dr ∧ dr ≤ 9999) ∧ tk = (en : Int) + ac + dr

set_option maxRecDepth 100000 in
set_option maxHeartbeats 4000000 in
theorem implQueues_any (w : World) (de qu wi ti qa bu le pb pc pj pt nw la : Int) (ea : Option Addr) (en ec : Nat) (ka : Option Addr) (kn kc : Nat) (tu : Int) (fa : Option Addr) (fn fc : Nat) (ra : Option Addr) (rn rc : Nat) (tk ac dr : Int) (E : List Ev) (K : List Lk) (F R : List Int) (hde : de ≤ 1000) (h : GIs w.heap.size w ea en ka kn fa fn ra rn E K F R) :
    Calls Try.prog 38 #[.agg #[.int .i64 de, .int .i64 qu, .int .i64 wi, .int .i64 ti, .int .i64 qa, .int .i64 bu, .int .i64 le, .int .i64 pb, .int .i64 pc, .int .i64 pj, .int .i64 pt, .int .i64 nw, .int .i64 la, .slice ea en ec, .slice ka kn kc, .int .i64 tu, .slice fa fn fc, .slice ra rn rc, .int .i64 tk, .int .i64 ac, .int .i64 dr]] w fun e w' => BEnd w w' (quP de qu E) e := by
  obtain ⟨W0, hW0⟩ : ∃ W, W = w.alloc (.cells #[.int .i64 de, .int .i64 qu, .int .i64 wi, .int .i64 ti, .int .i64 qa, .int .i64 bu, .int .i64 le, .int .i64 pb, .int .i64 pc, .int .i64 pj, .int .i64 pt, .int .i64 nw, .int .i64 la, .slice ea en ec, .slice ka kn kc, .int .i64 tu, .slice fa fn fc, .slice ra rn rc, .int .i64 tk, .int .i64 ac, .int .i64 dr] 33) := ⟨_, rfl⟩
  have HA : Hid (Box W0 w.heap.size 33 [.int .i64 de, .int .i64 qu, .int .i64 wi, .int .i64 ti, .int .i64 qa, .int .i64 bu, .int .i64 le, .int .i64 pb, .int .i64 pc, .int .i64 pj, .int .i64 pt, .int .i64 nw, .int .i64 la, .slice ea en ec, .slice ka kn kc, .int .i64 tu, .slice fa fn fc, .slice ra rn rc, .int .i64 tk, .int .i64 ac, .int .i64 dr]) := Lib.hid (by rw [hW0]; exact Box.new w [.int .i64 de, .int .i64 qu, .int .i64 wi, .int .i64 ti, .int .i64 qa, .int .i64 bu, .int .i64 le, .int .i64 pb, .int .i64 pc, .int .i64 pj, .int .i64 pt, .int .i64 nw, .int .i64 la, .slice ea en ec, .slice ka kn kc, .int .i64 tu, .slice fa fn fc, .slice ra rn rc, .int .i64 tk, .int .i64 ac, .int .i64 dr] 33)
  have HL : Hid (Below w.heap.size w W0) := Lib.hid (by rw [hW0]; exact bOne _ _)
  have HWE := Lib.hid hW0
  have c0 := HA.out.cell 0 _ rfl
  have HT := Lib.hid h
  clear h hW0
  go_enter Try.func38, Try.ntmps38
  go_upto_region 1 with fail
  rw [← HWE.out]
  go_wp2_with fail
  clear c0
  go_loopw [7] (fun i wr => ∃ j : Nat, i = .int .i64 j ∧ ((j : Int) ≤ de ∨ j = 0) ∧ Hid (∀ k : Nat, k < j → (openN ((k : Int) + 1) E : Int) ≤ qu) ∧ Hid (Below w.heap.size w wr) ∧ Hid (Box wr w.heap.size 33 [.int .i64 de, .int .i64 qu, .int .i64 wi, .int .i64 ti, .int .i64 qa, .int .i64 bu, .int .i64 le, .int .i64 pb, .int .i64 pc, .int .i64 pj, .int .i64 pt, .int .i64 nw, .int .i64 la, .slice ea en ec, .slice ka kn kc, .int .i64 tu, .slice fa fn fc, .slice ra rn rc, .int .i64 tk, .int .i64 ac, .int .i64 dr])) (fun i _ => (de - intOf i).toNat)
  case atStart => exact ⟨0, rfl, .inr rfl, Lib.hid (fun k hk => by omega), HL, HA⟩
  case round =>
    obtain ⟨j, rfl, hj, HQ, HB, HX⟩ := hrel
    by_cases hlt : (j : Int) < de
    · have hw1 : IntKind.i64.wrap ((j : Int) + 1) = (j : Int) + 1 := IntWalk.i64_in _ (by omega)
      go_upto_region 4 with fail
      have HB1 := Lib.hid (show Below w.heap.size w wr.drew from below_drew' HB.out)
      refine wp_region_held_drew (S := fun w' => Box w' w.heap.size 33 [.int .i64 de, .int .i64 qu, .int .i64 wi, .int .i64 ti, .int .i64 qa, .int .i64 bu, .int .i64 le, .int .i64 pb, .int .i64 pc, .int .i64 pj, .int .i64 pt, .int .i64 nw, .int .i64 la, .slice ea en ec, .slice ka kn kc, .int .i64 tu, .slice fa fn fc, .slice ra rn rc, .int .i64 tk, .int .i64 ac, .int .i64 dr]) (by kernel_rfl) (HX.out.below (below_drew' (Below.refl _ _))) (fun hHeld => ?_)
      refine wpAnyH_take (i := 0) (oi := { dst := some _, op := _, type := _, pos := _, after := _, guard := _ }) (v := ?_) rfl (by kernel_rfl) (by kernel_rfl) (by kernel_rfl) (fun _ _ _ h => h) ?_ (by with_reducible assumption) ?_
      rotate_left 1
      focus (refine Or.inl ⟨by rfl, ?_⟩; intro wq hSw; refine exec_load_box ?_ 33 ?_ ?_ hSw _ Try.underlying33 sizeGate; rotate_left 1; rfl; rfl)
      try simp only [Act.put, List.setIfInBounds_toArray, List.set_cons_zero, List.set_cons_succ]
      refine wpAnyH_take (i := 1) (oi := { dst := some _, op := _, type := _, pos := _, after := _, guard := _ }) (v := ?_) rfl (by kernel_rfl) (by kernel_rfl) (by kernel_rfl) (fun _ _ _ h => h) ?_ (by with_reducible assumption) ?_
      rotate_left 1
      focus (refine Or.inl ⟨by rfl, ?_⟩; intro wq hSw; go_simp; try with_reducible rfl)
      try simp only [Act.put, List.setIfInBounds_toArray, List.set_cons_zero, List.set_cons_succ]
      refine wpAnyH_take (i := 2) (oi := { dst := some _, op := _, type := _, pos := _, after := _, guard := _ }) (v := ?_) rfl (by kernel_rfl) (by kernel_rfl) (by kernel_rfl) (fun _ _ _ h => h) ?_ (by with_reducible assumption) ?_
      rotate_left 1
      focus (refine Or.inl ⟨by rfl, ?_⟩; intro wq hSw; go_simp; try with_reducible rfl)
      try simp only [Act.put, List.setIfInBounds_toArray, List.set_cons_zero, List.set_cons_succ]
      refine wpAnyH_take (i := 4) (oi := { dst := some _, op := _, type := _, pos := _, after := _, guard := _ }) (v := ?_) rfl (by kernel_rfl) (by kernel_rfl) (by kernel_rfl) (fun _ _ _ h => h) ?_ (by with_reducible assumption) ?_
      rotate_left 1
      focus (refine Or.inl ⟨by rfl, ?_⟩; intro wq hSw; go_simp; try with_reducible rfl)
      try simp only [Act.put, List.setIfInBounds_toArray, List.set_cons_zero, List.set_cons_succ]
      refine wpAnyH_take (i := 5) (oi := { dst := some _, op := _, type := _, pos := _, after := _, guard := _ }) (v := ?_) rfl (by kernel_rfl) (by kernel_rfl) (by kernel_rfl) (fun _ _ _ h => h) ?_ (by with_reducible assumption) ?_
      rotate_left 1
      focus (refine Or.inl ⟨by rfl, ?_⟩; intro wq hSw; go_simp; try with_reducible rfl)
      try simp only [Act.put, List.setIfInBounds_toArray, List.set_cons_zero, List.set_cons_succ]
      refine wpAnyH_take (i := 6) (oi := { dst := some _, op := _, type := _, pos := _, after := _, guard := _ }) (v := ?_) rfl (by kernel_rfl) (by kernel_rfl) (by kernel_rfl) (fun _ _ _ h => h) ?_ (by with_reducible assumption) ?_
      rotate_left 1
      focus (refine Or.inl ⟨by rfl, ?_⟩; intro wq hSw; have q0 := hSw.cell 0 _ rfl; have q1 := hSw.cell 1 _ rfl; go_simp; try with_reducible rfl)
      try simp only [Act.put, List.setIfInBounds_toArray, List.set_cons_zero, List.set_cons_succ]
      refine wpAnyH_ready (rs := [3]) (by kernel_rfl) (by simp) ?_
      refine AllReadyH.cons rfl (fun KA hKA => ?_) AllReadyH.nil
      go_simp
      refine (implOpenOf_any _ de qu wi ti qa bu le pb pc pj pt nw la ea en ec ka kn kc tu fa fn fc ra rn rc tk ac dr E K F R ((j : Int) + 1) (HT.out.here HB1.out)).mono ?_
      rintro e w2 ⟨rfl, hb⟩
      have HX2 := Lib.hid (hHeld.below hb)
      have HB2 := Lib.hid (low_after HB1.out hb)
      clear hb hHeld
      dsimp only
      refine hKA.out _ _ (HX2.out) (fun hHeld => ?_)
      clear hKA
      try simp only [Act.put, List.setIfInBounds_toArray, List.set_cons_zero, List.set_cons_succ]
      refine wpAnyH_take (i := 7) (oi := { dst := some _, op := _, type := _, pos := _, after := _, guard := _ }) (v := ?_) rfl (by kernel_rfl) (by kernel_rfl) (by kernel_rfl) (fun _ _ _ h => h) ?_ (by with_reducible assumption) ?_
      rotate_left 1
      focus (refine Or.inl ⟨by rfl, ?_⟩; intro wq hSw; go_simp; try with_reducible rfl)
      try simp only [Act.put, List.setIfInBounds_toArray, List.set_cons_zero, List.set_cons_succ]
      refine wpAnyH_done (by kernel_rfl) ?_ _
      by_cases hq : qu < (openN ((j : Int) + 1) E : Int)
      · have HNP := Lib.hid (show ¬ quP de qu E from fun h => by have := h j hlt; omega)
        go_wp2_with fail
        go_ret
        exact bend_no HNP.out HB2.out
      · have HQ2 := Lib.hid (show ∀ k : Nat, k < j + 1 → (openN ((k : Int) + 1) E : Int) ≤ qu from fun k hk => by
          rcases (show k < j ∨ k = j by omega) with h | rfl
          · exact HQ.out k h
          · omega)
        go_wp2_with fail
        go_roundw
        case rel => exact ⟨j + 1, by go_num, .inl (by omega), HQ2, HB2, HX2⟩
        case measure => simp [intOf]; omega
    · have HY := Lib.hid (show quP de qu E from fun k hk => HQ.out k (by omega))
      go_wp2_with fail
      go_ret
      exact bend_yes HY.out HB.out

set_option maxRecDepth 100000 in
set_option maxHeartbeats 4000000 in
theorem implShares_any (w : World) (de qu wi ti qa bu le pb pc pj pt nw la : Int) (ea : Option Addr) (en ec : Nat) (ka : Option Addr) (kn kc : Nat) (tu : Int) (fa : Option Addr) (fn fc : Nat) (ra : Option Addr) (rn rc : Nat) (tk ac dr : Int) (E : List Ev) (K : List Lk) (F R : List Int) (h : GIs w.heap.size w ea en ka kn fa fn ra rn E K F R) :
    Calls Try.prog 40 #[.agg #[.int .i64 de, .int .i64 qu, .int .i64 wi, .int .i64 ti, .int .i64 qa, .int .i64 bu, .int .i64 le, .int .i64 pb, .int .i64 pc, .int .i64 pj, .int .i64 pt, .int .i64 nw, .int .i64 la, .slice ea en ec, .slice ka kn kc, .int .i64 tu, .slice fa fn fc, .slice ra rn rc, .int .i64 tk, .int .i64 ac, .int .i64 dr]] w fun e w' => BEnd w w' (shP de tu fn F) e := by
  obtain ⟨W0, hW0⟩ : ∃ W, W = w.alloc (.cells #[.int .i64 de, .int .i64 qu, .int .i64 wi, .int .i64 ti, .int .i64 qa, .int .i64 bu, .int .i64 le, .int .i64 pb, .int .i64 pc, .int .i64 pj, .int .i64 pt, .int .i64 nw, .int .i64 la, .slice ea en ec, .slice ka kn kc, .int .i64 tu, .slice fa fn fc, .slice ra rn rc, .int .i64 tk, .int .i64 ac, .int .i64 dr] 33) := ⟨_, rfl⟩
  have HA : Hid (Box W0 w.heap.size 33 [.int .i64 de, .int .i64 qu, .int .i64 wi, .int .i64 ti, .int .i64 qa, .int .i64 bu, .int .i64 le, .int .i64 pb, .int .i64 pc, .int .i64 pj, .int .i64 pt, .int .i64 nw, .int .i64 la, .slice ea en ec, .slice ka kn kc, .int .i64 tu, .slice fa fn fc, .slice ra rn rc, .int .i64 tk, .int .i64 ac, .int .i64 dr]) := Lib.hid (by rw [hW0]; exact Box.new w [.int .i64 de, .int .i64 qu, .int .i64 wi, .int .i64 ti, .int .i64 qa, .int .i64 bu, .int .i64 le, .int .i64 pb, .int .i64 pc, .int .i64 pj, .int .i64 pt, .int .i64 nw, .int .i64 la, .slice ea en ec, .slice ka kn kc, .int .i64 tu, .slice fa fn fc, .slice ra rn rc, .int .i64 tk, .int .i64 ac, .int .i64 dr] 33)
  have HL : Hid (Below w.heap.size w W0) := Lib.hid (by rw [hW0]; exact bOne _ _)
  have HWE := Lib.hid hW0
  have c0 := HA.out.cell 0 _ rfl
  have c15 := HA.out.cell 15 _ rfl
  have c16 := HA.out.cell 16 _ rfl
  have HT := Lib.hid (h.here HL.out).lf
  have HN := Lib.hid HT.out.hlen
  have hfl := h.fle
  unfold maxLen at hfl
  clear h hW0
  go_enter Try.func40, Try.ntmps40
  go_upto_region 1 with fail
  rw [← HWE.out]
  by_cases g1 : tu < 0
  · have HNP := Lib.hid (show ¬ shP de tu fn F from fun h => by have h1 := h.1; have h2 := h.2.1; have h3 := h.2.2.1; omega)
    go_wp2_with fail
    go_ret
    exact bend_no HNP.out HL.out
  by_cases g2 : de ≤ tu
  · have HNP := Lib.hid (show ¬ shP de tu fn F from fun h => by have h1 := h.1; have h2 := h.2.1; have h3 := h.2.2.1; omega)
    go_wp2_with fail
    go_ret
    exact bend_no HNP.out HL.out
  by_cases g3 : ¬ (fn : Int) = de
  · have HNP := Lib.hid (show ¬ shP de tu fn F from fun h => by have h1 := h.1; have h2 := h.2.1; have h3 := h.2.2.1; omega)
    go_wp2_with fail
    go_ret
    exact bend_no HNP.out HL.out
  have hbn : ((fn : Int) != de) = false := by simp; omega
  go_wp2_with fail
  go_loopw [28] (fun i wr => ∃ j : Nat, j ≤ fn ∧ i = .int .i64 j ∧ Hid (∀ k, (hk : k < F.length) → k < j → 0 ≤ F[k] ∧ F[k] ≤ 1000) ∧ wr = W0) (fun i _ => fn - (intOf i).toNat)
  case atStart => exact ⟨0, by omega, rfl, Lib.hid (fun k _ hk => by omega), rfl⟩
  case round =>
    obtain ⟨j, hj, rfl, HQ, rfl⟩ := hrel
    by_cases hlt : (j : Int) < (fn : Int)
    · have hjl : j < F.length := by have := HN.out; omega
      obtain ⟨b, off, rfl, hb, x0⟩ := HT.out.cell j hjl
      obtain ⟨x, hx⟩ : ∃ x, x = F[j] := ⟨_, rfl⟩
      rw [← hx] at x0
      have HX := Lib.hid hx
      clear hx
      by_cases h1 : x < 0
      · have HNP := Lib.hid (show ¬ shP de tu fn F from fun h => by have := h.2.2.2 F[j] (List.getElem_mem _); rw [← HX.out] at this; omega)
        go_wp2_with fail
        go_ret
        exact bend_no HNP.out HL.out
      by_cases h2 : 1000 < x
      · have HNP := Lib.hid (show ¬ shP de tu fn F from fun h => by have := h.2.2.2 F[j] (List.getElem_mem _); rw [← HX.out] at this; omega)
        go_wp2_with fail
        go_ret
        exact bend_no HNP.out HL.out
      have HQ2 := Lib.hid (show ∀ k, (hk : k < F.length) → k < j + 1 → 0 ≤ F[k] ∧ F[k] ≤ 1000 from fun k hk hkj => by
        rcases (show k < j ∨ k = j by omega) with h | rfl
        · exact HQ.out k hk h
        · rw [← HX.out]; omega)
      go_wp2_with fail
      go_roundw
      case rel => exact ⟨j + 1, by omega, by go_num, HQ2, by trivial⟩
      case measure => simp [intOf]; omega
    · have HY := Lib.hid (show shP de tu fn F from ⟨by omega, by omega, by omega, fun x hx => by
        obtain ⟨k, hk, rfl⟩ := List.mem_iff_getElem.1 hx
        exact HQ.out k hk (by have := HN.out; omega)⟩)
      go_wp2_with fail
      go_ret
      exact bend_yes HY.out HL.out

end Go.Proofs.Ytecfomaapomncaa.Gat
