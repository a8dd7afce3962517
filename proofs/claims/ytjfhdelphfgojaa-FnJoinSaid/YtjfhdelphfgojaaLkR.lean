/-
  The walk of the specification's Leave.
-/
import Derived.Test.YtjfhdelphfgojaaLkK
import Derived.Deep.RegionWith
import Derived.Deep.DeepCutAuto
namespace Go.Proofs.Ytjfhdelphfgojaa.Lnk
open Go.RowKit
set_option linter.unusedVariables false

set_option maxRecDepth 100000 in
set_option maxHeartbeats 2000000 in
theorem specLeave_any (w : World) (a : Option Addr) (len cap : Nat) (up : Bool) (ep sq : Int) (l : List Y) (h : YIs w.heap.size w a len l) (hlen : len ≤ 1048576) (hcap : a = none → cap = 0) :
    Calls Try.prog 38 #[.agg #[.bool up, .int .i64 ep, .int .i64 sq, .slice a len cap]] w fun en w' => LandEnd w w' (leU up ep sq l) ep sq (leL up ep sq l) (leI up ep sq l) en := by
  have hf := Fr2.two w up ep sq a len cap l h 26 26
  have HF := Lib.hid hf
  clear h hf
  go_enter Try.func38, Try.ntmps38
  go_wp2_with fail
  refine (specLinkOk_any _ a len cap up ep sq l HF.out.here).mono ?_
  rintro en w3 ⟨rfl, hb3⟩
  have HF3 := Lib.hid (HF.out.step hb3)
  clear hb3 HF
  obtain ⟨⟨c0, c1, c2, c3⟩, ⟨d0, d1, d2, d3⟩, ⟨f0, f1, f2, f3⟩, g3⟩ := HF3.out.cells
  by_cases hj : LOk up ep sq l
  · have HJ := Lib.hid (lokB_true hj)
    rw [lokB_true hj]
    clear hj
    have hl0 := HF3.out.b0.lt
    have hl1 := HF3.out.b1.lt
    have HSC := Lib.hid (fun w' (hb : Below w3.heap.size w3 w') => let h := (HF3.out.step hb).cells.1; And.intro h.1 (And.intro h.2.1 (And.intro h.2.2.1 h.2.2.2)))
    go_wp2_with fail
    have HD := Lib.hid (show Below w3.heap.size w3 w3.drew from below_drew' (Below.refl _ _))
    have HDA := Lib.hid (show Below w3.heap.size w3 (w3.drew.alloc (.cells #[] 40)) from (below_drew' (Below.refl _ _)).alloc (Nat.le_refl _) _)
    refine wp_region_held_drew (S := fun w' => w'.cell? ⟨w.heap.size, 0, none⟩ = some (.bool up) ∧ w'.cell? ⟨w.heap.size, 1, none⟩ = some (.int .i64 ep) ∧ w'.cell? ⟨w.heap.size, 2, none⟩ = some (.int .i64 sq) ∧ w'.cell? ⟨w.heap.size, 3, none⟩ = some (.slice a len cap)) (by kernel_rfl) (HSC.out _ HD.out) (fun hHeld => ?_)
    refine wpAnyH_take (i := 0) (oi := { dst := some _, op := _, type := _, pos := _, after := _, guard := _ }) (v := ?_) rfl (by kernel_rfl) (by kernel_rfl) (by kernel_rfl) (fun _ _ _ h => h) ?_ (by with_reducible assumption) ?_
    rotate_left 1
    focus (refine Or.inl ⟨by rfl, ?_⟩; intro w' hSw; obtain ⟨x0, x1, x2, x3⟩ := hSw; go_simp; try with_reducible rfl)
    try simp only [Act.put, List.setIfInBounds_toArray, List.set_cons_zero, List.set_cons_succ]
    refine wpAnyH_take (i := 1) (oi := { dst := some _, op := _, type := _, pos := _, after := _, guard := _ }) (v := ?_) rfl (by kernel_rfl) (by kernel_rfl) (by kernel_rfl) (fun _ _ _ h => h) ?_ (by with_reducible assumption) ?_
    rotate_left 1
    focus (refine Or.inl ⟨by rfl, ?_⟩; intro w' hSw; obtain ⟨x0, x1, x2, x3⟩ := hSw; go_simp; try with_reducible rfl)
    try simp only [Act.put, List.setIfInBounds_toArray, List.set_cons_zero, List.set_cons_succ]
    refine wpAnyH_take (i := 2) (oi := { dst := some _, op := _, type := _, pos := _, after := _, guard := _ }) (v := ?_) rfl (by kernel_rfl) (by kernel_rfl) (by kernel_rfl) (fun _ _ _ h => h) ?_ (by with_reducible assumption) ?_
    rotate_left 1
    focus (refine Or.inl ⟨by rfl, ?_⟩; intro w' hSw; obtain ⟨x0, x1, x2, x3⟩ := hSw; go_simp; try with_reducible rfl)
    try simp only [Act.put, List.setIfInBounds_toArray, List.set_cons_zero, List.set_cons_succ]
    refine wpAnyH_take (i := 3) (oi := { dst := some _, op := _, type := _, pos := _, after := _, guard := _ }) (v := ?_) rfl (by kernel_rfl) (by kernel_rfl) (by kernel_rfl) (fun _ _ _ h => h) ?_ (by with_reducible assumption) ?_
    rotate_left 1
    focus (refine Or.inl ⟨by rfl, ?_⟩; intro w' hSw; obtain ⟨x0, x1, x2, x3⟩ := hSw; go_simp; try with_reducible rfl)
    try simp only [Act.put, List.setIfInBounds_toArray, List.set_cons_zero, List.set_cons_succ]
    refine wpAnyH_take (i := 6) (oi := { dst := some _, op := _, type := _, pos := _, after := _, guard := _ }) (v := ?_) rfl (by kernel_rfl) (by kernel_rfl) (by kernel_rfl) (fun _ _ _ h => h) ?_ (by with_reducible assumption) ?_
    rotate_left 1
    focus (refine Or.inl ⟨by rfl, ?_⟩; intro w' hSw; obtain ⟨x0, x1, x2, x3⟩ := hSw; go_simp; try with_reducible rfl)
    try simp only [Act.put, List.setIfInBounds_toArray, List.set_cons_zero, List.set_cons_succ]
    refine wpAnyH_ready (rs := [4, 7]) (by kernel_rfl) (by simp) ?_
    refine AllReadyH.cons rfl (fun KA hKA => ?_) (AllReadyH.cons rfl (fun KB hKB => ?_) AllReadyH.nil)
    · skip
      go_simp
      refine hKA.out _ _ (HSC.out _ HDA.out) (fun hHeld => ?_)
      clear hKA
      try simp only [Act.put, List.setIfInBounds_toArray, List.set_cons_zero, List.set_cons_succ]
      refine wpAnyH_take (i := 5) (oi := { dst := some _, op := _, type := _, pos := _, after := _, guard := _ }) (v := ?_) rfl (by kernel_rfl) (by kernel_rfl) (by kernel_rfl) (fun _ _ _ h => h) ?_ (by with_reducible assumption) ?_
      rotate_left 1
      focus (refine Or.inl ⟨by rfl, ?_⟩; intro w' hSw; obtain ⟨x0, x1, x2, x3⟩ := hSw; go_simp; try with_reducible rfl)
      try simp only [Act.put, List.setIfInBounds_toArray, List.set_cons_zero, List.set_cons_succ]
      refine wpAnyH_ready (rs := [7]) (by kernel_rfl) (by simp) ?_
      refine AllReadyH.cons rfl (fun KC0 hKC0 => ?_) AllReadyH.nil
      go_simp
      refine (specIds_any (w3.drew.alloc (.cells #[] 40)) a len cap up ep sq l (HF3.out.here.here HDA.out) (by omega)).mono ?_
      rintro e w6 ⟨⟨a6, cap6, rfl, ho6⟩, hb6⟩
      have HB6 := Lib.hid (bAfter HDA.out hb6 HDA.out.size)
      have HF6 := Lib.hid (HF3.out.step HB6.out)
      have HE6 := Lib.hid ((ylit w3.drew 40).below hb6)
      have HO6 := Lib.hid ho6
      clear hb6 ho6
      dsimp only
      refine hKC0.out _ _ (HSC.out _ HB6.out) (fun hHeld => ?_)
      clear hKC0
      try simp only [Act.put, List.setIfInBounds_toArray, List.set_cons_zero, List.set_cons_succ]
      obtain ⟨⟨p0, p1, p2, p3⟩, ⟨q0, q1, q2, q3⟩, ⟨r0, r1, r2, r3⟩, r4⟩ := HF6.out.cells
      refine wpAnyH_ready (rs := [8]) (by kernel_rfl) (by simp) ?_
      refine AllReadyH.cons rfl (fun KS hKS => ?_) AllReadyH.nil
      go_simp
      refine hKS.out _ _ (by refine ⟨?_, ?_, ?_, ?_⟩ <;> simp [World.cell?_setCell_far, p0, p1, p2, p3]) (fun hHeld => ?_)
      clear hKS
      try simp only [Act.put, List.setIfInBounds_toArray, List.set_cons_zero, List.set_cons_succ]
      refine wpAnyH_take (i := 9) (oi := { dst := some _, op := _, type := _, pos := _, after := _, guard := _ }) (v := ?_) rfl (by kernel_rfl) (by kernel_rfl) (by kernel_rfl) (fun _ _ _ h => h) ?_ (by with_reducible assumption) ?_
      rotate_left 1
      focus (refine Or.inl ⟨by rfl, ?_⟩; intro w' hSw; obtain ⟨x0, x1, x2, x3⟩ := hSw; go_simp; try with_reducible rfl)
      try simp only [Act.put, List.setIfInBounds_toArray, List.set_cons_zero, List.set_cons_succ]
      refine wpAnyH_done (by kernel_rfl) ?_ _
      go_wp2_with fail
      have hE := fun x0 x1 x2 x3 => HF6.out.end_ HE6.out (show w.heap.size + 1 < w3.heap.size from hl1) x0 x1 x2 x3
      have hE2 := fun x0 x1 x2 x3 => HF6.out.endI HO6.out (show w.heap.size + 1 < (w3.drew.alloc (.cells #[] 40)).heap.size from Nat.lt_of_lt_of_le hl1 HDA.out.size) x0 x1 x2 x3
      refine bodyPost_ret (v := .tuple #[.agg #[.bool false, .int .i64 ep, .int .i64 sq, .slice (some ⟨w3.heap.size, 0, none⟩) 0 0], .slice a6 (idsL l).length cap6]) (by simp [results, Try.results38, go_sem, q0, q1, q2, q3]) rfl ?_
      unfold leU leL leI
      rw [HJ.out]
      exact ⟨⟨_, 0, a6, cap6, rfl, (hE _ _ _ _).1, hE2 _ _ _ _⟩, (hE _ _ _ _).2⟩
    · skip
      go_simp
      refine (specIds_any w3.drew a len cap up ep sq l (HF3.out.here.here HD.out) (by omega)).mono ?_
      rintro e w6 ⟨⟨a6, cap6, rfl, ho6⟩, hb6⟩
      have HB6 := Lib.hid (bAfter HD.out hb6 HD.out.size)
      have HF6 := Lib.hid (HF3.out.step HB6.out)
      have HO6 := Lib.hid ho6
      have HS6 := Lib.hid (show w3.heap.size ≤ w6.heap.size from HB6.out.size)
      clear hb6 ho6
      dsimp only
      refine hKB.out _ _ (HSC.out _ HB6.out) (fun hHeld => ?_)
      clear hKB
      try simp only [Act.put, List.setIfInBounds_toArray, List.set_cons_zero, List.set_cons_succ]
      refine wpAnyH_ready (rs := [4]) (by kernel_rfl) (by simp) ?_
      refine AllReadyH.cons rfl (fun KC0 hKC0 => ?_) AllReadyH.nil
      go_simp
      have HB7 := Lib.hid (HB6.out.alloc HS6.out (.cells #[] 40))
      have HF7 := Lib.hid (HF3.out.step HB7.out)
      refine hKC0.out _ _ (HSC.out _ HB7.out) (fun hHeld => ?_)
      clear hKC0
      try simp only [Act.put, List.setIfInBounds_toArray, List.set_cons_zero, List.set_cons_succ]
      refine wpAnyH_take (i := 5) (oi := { dst := some _, op := _, type := _, pos := _, after := _, guard := _ }) (v := ?_) rfl (by kernel_rfl) (by kernel_rfl) (by kernel_rfl) (fun _ _ _ h => h) ?_ (by with_reducible assumption) ?_
      rotate_left 1
      focus (refine Or.inl ⟨by rfl, ?_⟩; intro w' hSw; obtain ⟨x0, x1, x2, x3⟩ := hSw; go_simp; try with_reducible rfl)
      try simp only [Act.put, List.setIfInBounds_toArray, List.set_cons_zero, List.set_cons_succ]
      obtain ⟨⟨p0, p1, p2, p3⟩, ⟨q0, q1, q2, q3⟩, ⟨r0, r1, r2, r3⟩, r4⟩ := HF7.out.cells
      have hl7 := HF6.out.b1.lt
      have hl8 := HF6.out.b0.lt
      refine wpAnyH_ready (rs := [8]) (by kernel_rfl) (by simp) ?_
      refine AllReadyH.cons rfl (fun KS hKS => ?_) AllReadyH.nil
      obtain ⟨w7, hw7⟩ : ∃ w7, w7 = w6.alloc (.cells #[] 40) := ⟨_, rfl⟩
      have HI7 := Lib.hid (HO6.out.below (bOne w6 (.cells #[] 40)))
      have HE7 := Lib.hid (ylit w6 40)
      rw [← hw7] at p0 p1 p2 p3 q0 q1 q2 q3 r0 r1 r2 r3 r4 HF7 HI7 HE7 ⊢
      clear hw7
      go_simp
      refine hKS.out _ _ (by refine ⟨?_, ?_, ?_, ?_⟩ <;> simp [World.cell?_setCell_far, p0, p1, p2, p3]) (fun hHeld => ?_)
      clear hKS
      try simp only [Act.put, List.setIfInBounds_toArray, List.set_cons_zero, List.set_cons_succ]
      refine wpAnyH_take (i := 9) (oi := { dst := some _, op := _, type := _, pos := _, after := _, guard := _ }) (v := ?_) rfl (by kernel_rfl) (by kernel_rfl) (by kernel_rfl) (fun _ _ _ h => h) ?_ (by with_reducible assumption) ?_
      rotate_left 1
      focus (refine Or.inl ⟨by rfl, ?_⟩; intro w' hSw; obtain ⟨x0, x1, x2, x3⟩ := hSw; go_simp; try with_reducible rfl)
      try simp only [Act.put, List.setIfInBounds_toArray, List.set_cons_zero, List.set_cons_succ]
      refine wpAnyH_done (by kernel_rfl) ?_ _
      go_wp2_with fail
      have hE := fun x0 x1 x2 x3 => HF7.out.end_ HE7.out hl7 x0 x1 x2 x3
      have hE2 := fun x0 x1 x2 x3 => HF7.out.endI HI7.out (show w.heap.size + 1 < w3.drew.heap.size from hl1) x0 x1 x2 x3
      refine bodyPost_ret (v := .tuple #[.agg #[.bool false, .int .i64 ep, .int .i64 sq, .slice (some ⟨w6.heap.size, 0, none⟩) 0 0], .slice a6 (idsL l).length cap6]) (by simp [results, Try.results38, go_sem, q0, q1, q2, q3]) rfl ?_
      unfold leU leL leI
      rw [HJ.out]
      exact ⟨⟨_, 0, a6, cap6, rfl, (hE _ _ _ _).1, hE2 _ _ _ _⟩, (hE _ _ _ _).2⟩
  · have HJ := Lib.hid (lokB_false hj)
    have hq := lokB_false hj
    clear hj
    all_goals
      rw [hq]
      clear hq
      go_wp2_with fail
      refine (specCopy_any _ a len cap up ep sq l HF3.out.here hlen hcap).mono ?_
      rintro en w4 ⟨⟨a1, cap1, rfl, ho4⟩, hb4⟩
      have hb5 := bOne w4 (.cells #[] 3)
      have HF4 := Lib.hid (HF3.out.step hb4)
      have HF5 := Lib.hid ((HF3.out.step hb4).step hb5)
      have HR := Lib.hid (show w.heap.size + 1 < w4.heap.size from Nat.lt_of_lt_of_le HF3.out.b1.lt hb4.size)
      have HE := Lib.hid (fun x0 x1 x2 x3 => HF5.out.end_ (ho4.below hb5) HF3.out.b1.lt x0 x1 x2 x3)
      have HE2 := Lib.hid (fun x0 x1 x2 x3 => HF5.out.endI (ilit w4) HR.out x0 x1 x2 x3)
      clear hb4 hb5 ho4 c0 c1 c2 c3 d0 d1 d2 d3 f0 f1 f2 f3 g3
      obtain ⟨⟨c0, c1, c2, c3⟩, ⟨d0, d1, d2, d3⟩, ⟨f0, f1, f2, f3⟩, g3⟩ := HF5.out.cells
      go_wp2_with fail
      refine bodyPost_ret (v := .tuple #[.agg #[.bool up, .int .i64 ep, .int .i64 sq, .slice a1 l.length cap1], .slice (some ⟨w4.heap.size, 0, none⟩) 0 0]) (by simp [results, Try.results38, go_sem, d0, d1, d2, d3]) rfl ?_
      unfold leU leL leI
      rw [HJ.out]
      exact ⟨⟨a1, cap1, some ⟨w4.heap.size, 0, none⟩, 0, rfl, (HE.out _ _ _ _).1, HE2.out _ _ _ _⟩, (HE.out _ _ _ _).2⟩
end Go.Proofs.Ytjfhdelphfgojaa.Lnk
