/-
  The walk of spec's l02Make.
-/
import Derived.Test.YtkoliacbajpijaaDoorMksA
import Derived.Test.YtkoliacbajpijaaDoorRgk
namespace Go.Proofs.YtkoliacbajpijaaDoor.Whl
open Go.RowKit Go.Maps Go.Proofs.YtkoliacbajpijaaDoor.Kit Go.Proofs.YtkoliacbajpijaaDoor.Draw
set_option linter.unusedVariables false
set_option linter.unusedSimpArgs false

/-- what is drawn of the small lists -/
def pz (z : Int) : Prop := -1 ≤ z ∧ z ≤ 1000000001
theorem pz_of {z : Int} (h : -1 ≤ z) (h1 : z ≤ 1000000001) : ∃ y : Int, Value.int .i64 z = .int .i64 y ∧ pz y := ⟨z, rfl, h, h1⟩
theorem nums_l1 : ∀ (W : World), Nums (W.alloc (.cells #[.int .i64 0, .int .i64 5, .int .i64 63, .int .i64 64, .int .i64 4095, .int .i64 262143, .int .i64 999999990] 3)) W.heap.size 7 pz := fun W => nums_new W [.int .i64 0, .int .i64 5, .int .i64 63, .int .i64 64, .int .i64 4095, .int .i64 262143, .int .i64 999999990] 3 pz (by
  intro v hv
  simp only [List.mem_cons, List.mem_nil_iff, or_false] at hv
  rcases hv with rfl | rfl | rfl | rfl | rfl | rfl | rfl <;> exact pz_of (by omega) (by omega))
theorem nums_l2 : ∀ (W : World), Nums (W.alloc (.cells #[.int .i64 0, .int .i64 1, .int .i64 2, .int .i64 5, .int .i64 63, .int .i64 64, .int .i64 5000] 3)) W.heap.size 7 pz := fun W => nums_new W [.int .i64 0, .int .i64 1, .int .i64 2, .int .i64 5, .int .i64 63, .int .i64 64, .int .i64 5000] 3 pz (by
  intro v hv
  simp only [List.mem_cons, List.mem_nil_iff, or_false] at hv
  rcases hv with rfl | rfl | rfl | rfl | rfl | rfl | rfl <;> exact pz_of (by omega) (by omega))
theorem setR_le {now : Int} {l : List T} {t : T} (h : l.length ≤ 60) : (setR now l t).length ≤ 60 := by
  unfold setR
  cases h1 : setB now l t with
  | false => simpa using h
  | true =>
    unfold setB at h1
    simp only [Bool.and_eq_true] at h1
    have h2 : WOk now (setL l t) := by
      by_cases hc : WOk now (setL l t)
      · exact hc
      · rw [wokB_false hc] at h1; simp at h1
    simpa using h2.len

set_option maxRecDepth 100000 in
set_option maxHeartbeats 2000000 in
theorem make_draw (w : World) (cb B : Nat) (a0 : Option Addr) (len0 cap0 : Nat) (hd : Dr B w cb 85 a0 len0 cap0) :
    Calls Tryd.prog 58 #[.pointer (some ⟨cb, 0, none⟩)] w fun e w' => WhD 60 B w w' cb a0 len0 cap0 e := by
  have hcb := hd.cur.lt
  have HD := Lib.hid hd
  clear hd
  go_enter Tryd.func58, Tryd.ntmps58
  go_wp2_with fail
  have HW1 := Lib.hid (show Went B w (w.alloc (.cells #[.int .i64 0, .slice none 0 0] 26)) cb 85 a0 len0 cap0 from went_of_below HD.out (bOne _ _))
  have HZ1 := Lib.hid (Bz.new w)
  obtain ⟨w1, hw1⟩ : ∃ w1, w1 = w.alloc (.cells #[.int .i64 0, .slice none 0 0] 26) := ⟨_, rfl⟩
  rw [← hw1] at HW1 HZ1 ⊢
  have hs1 : w1.heap.size = w.heap.size + 1 := by rw [hw1]; simp
  have hn1 := nums_l1 w1
  rw [hs1] at hn1
  have HS1 := Lib.hid hs1
  clear hw1 hs1
  with_reducible refine (pickInt_draw _ cb B a0 len0 cap0 (HW1.out.alloc _).dr (w.heap.size + 1) 7 pz hn1 (by omega) (by have := HS1.out; simp; omega) (by omega) (by omega)).mono ?_
  rintro e w2 ⟨⟨now, rfl, hz⟩, hw2⟩
  unfold pz at hz
  obtain ⟨hz0, hz1⟩ := hz
  have HW2 := Lib.hid ((HW1.out.alloc _).trans hw2)
  have hg2 := (HW1.out.alloc (.cells #[.int .i64 0, .int .i64 5, .int .i64 63, .int .i64 64, .int .i64 4095, .int .i64 262143, .int .i64 999999990] 3)).trans hw2
  have hm := MkS.new (w := w) hw2.dr HW2.out.grown hcb (b2 := w.heap.size) ⟨(HZ1.out.below (bOne _ (.cells #[.int .i64 0, .int .i64 5, .int .i64 63, .int .i64 64, .int .i64 4095, .int .i64 262143, .int .i64 999999990] 3))).box.grown hw2.grown (by simp; omega), (HZ1.out.below (bOne _ (.cells #[.int .i64 0, .int .i64 5, .int .i64 63, .int .i64 64, .int .i64 4095, .int .i64 262143, .int .i64 999999990] 3))).fro.grown (HZ1.out.below (bOne _ (.cells #[.int .i64 0, .int .i64 5, .int .i64 63, .int .i64 64, .int .i64 4095, .int .i64 262143, .int .i64 999999990] 3))).box.lt hw2.grown (by simp; omega)⟩ (Nat.le_refl _) now (a := none) (n := 0) (cap := 0) (l := []) (World.ownsRow_nil _ _ _ _) (fun j hj => by simp [Value.ownBlock] at hj)
  have HM := Lib.hid hm
  clear hw2 hg2 hm HW1 HZ1 HW2 hn1
  obtain ⟨c0, c1, f0, f1, d0, d1, g0, g1, l2, l3⟩ := HM.out.cells
  go_wp2_with fail
  obtain ⟨w3, hw3⟩ : ∃ w3, w3 = w2.alloc (.cells #[.int .i64 now, .slice none 0 0] 26) := ⟨_, rfl⟩
  rw [← hw3] at HM c0 c1 f0 f1 d0 d1 g0 g1 l2 l3 ⊢
  clear hw3
  obtain ⟨b3, hb3⟩ : ∃ b3, b3 = w2.heap.size := ⟨_, rfl⟩
  rw [← hb3] at HM d0 d1 g0 g1 l3 ⊢
  clear hb3
  obtain ⟨b2, hb2⟩ : ∃ b2, b2 = w.heap.size := ⟨_, rfl⟩
  rw [← hb2] at HM c0 c1 f0 f1 l2 ⊢
  have HB2 := Lib.hid hb2
  clear hb2
  refine (below_draw _ cb B a0 len0 cap0 HM.out.dr 8 (by omega) (by omega)).mono ?_
  rintro e w4 ⟨⟨k, rfl, hk0, hk1⟩, hw4⟩
  have HM4 := Lib.hid (HM.out.went hw4)
  clear hw4 c0 c1 f0 f1 d0 d1 g0 g1 l2 l3 HM
  go_wp2_with fail
  go_loopw [5] (fun i wr => ∃ (j : Nat) (a : Option Addr) (n cap : Nat) (l : List T), (j : Int) ≤ k ∧ i = .int .i64 j ∧ Hid (l.length ≤ 60) ∧ Hid (n = l.length) ∧ Hid (MkS B w wr cb a0 len0 cap0 b2 b3 now a n cap l)) (fun i _ => (k - intOf i).toNat)
  case atStart => exact ⟨0, none, 0, 0, [], by omega, rfl, Lib.hid (by simp), Lib.hid rfl, HM4⟩
  case round =>
    obtain ⟨j, a, n, cap, l, hj, rfl, HL, HNL, HM⟩ := hrel
    obtain ⟨c0, c1, f0, f1, d0, d1, g0, g1, l2, l3⟩ := HM.out.cells
    by_cases hlt : (j : Int) < k
    · go_upto_region 6 with fail
      have HNX := Lib.hid (show Nums (wr.drew.alloc (.cells #[.int .i64 0, .int .i64 1, .int .i64 2, .int .i64 5, .int .i64 63, .int .i64 64, .int .i64 5000] 3)) wr.heap.size 7 pz from nums_l2 wr.drew)
      have HBD := Lib.hid (show Below wr.heap.size wr (wr.drew.alloc (.cells #[.int .i64 0, .int .i64 1, .int .i64 2, .int .i64 5, .int .i64 63, .int .i64 64, .int .i64 5000] 3)) from (below_drew' (Below.refl _ _)).alloc (Nat.le_refl _) _)
      have HD5 := Lib.hid (went_of_below HM.out.dr HBD.out)
      have HCL := Lib.hid (show wr.heap.size ≠ cb from (by have := HM.out.dr.cur.lt; omega))
      go_region_held3 (fun w' => w'.cell? ⟨b3, 0, none⟩ = some (.int .i64 now))
        (first
          | go_keep
          | exact hc5)
        (first | (go_at_call 40; refine (pickInt_draw _ cb B a0 len0 cap0 HD5.out.dr wr.heap.size 7 pz HNX.out HCL.out (by simp) (by omega) (by omega)).mono ?_; rintro e w5 ⟨⟨z, rfl, hz⟩, hw5⟩; have HM5 := Lib.hid ((HM.out.below HBD.out).went hw5); have hc5 := HM5.out.x.c0))
      clear hz hc5 hw5 HNX HBD HD5 HCL c0 c1 f0 f1 d0 d1 g0 g1 l2 l3
      obtain ⟨c0, c1, f0, f1, d0, d1, g0, g1, l2, l3⟩ := HM5.out.cells
      go_wp2_with fail
      refine Rk.wp_region_K (k := 10) (S := fun w' => w'.cell? ⟨b3, 0, none⟩ = some (.int .i64 now) ∧ w'.cell? ⟨b3, 1, none⟩ = some (.slice a n cap)) (by kernel_rfl) ⟨d0, d1⟩ (fun hHeld => ?_)
      refine Rk.wpAnyK_take (i := 0) (oi := { dst := some _, op := _, type := _, pos := _, after := _, guard := _ }) (v := ?_) rfl (by kernel_rfl) (by kernel_rfl) (by kernel_rfl) (by kernel_rfl) (by kernel_rfl) (fun _ _ _ h => h) ?_ (by assumption) ?_
      rotate_left 1
      focus (refine Or.inl ⟨by rfl, ?_⟩; intro wq hSw; obtain ⟨s0, s1⟩ := hSw; go_simp; try with_reducible rfl)
      try simp only [Act.put, List.setIfInBounds_toArray, List.set_cons_zero, List.set_cons_succ]
      refine Rk.wpAnyK_take (i := 1) (oi := { dst := some _, op := _, type := _, pos := _, after := _, guard := _ }) (v := ?_) rfl (by kernel_rfl) (by kernel_rfl) (by kernel_rfl) (by kernel_rfl) (by kernel_rfl) (fun _ _ _ h => h) ?_ (by assumption) ?_
      rotate_left 1
      focus (refine Or.inl ⟨by rfl, ?_⟩; intro wq hSw; go_simp; try with_reducible rfl)
      try simp only [Act.put, List.setIfInBounds_toArray, List.set_cons_zero, List.set_cons_succ]
      refine Rk.wpAnyK_take (i := 2) (oi := { dst := some _, op := _, type := _, pos := _, after := _, guard := _ }) (v := ?_) rfl (by kernel_rfl) (by kernel_rfl) (by kernel_rfl) (by kernel_rfl) (by kernel_rfl) (fun _ _ _ h => h) ?_ (by assumption) ?_
      rotate_left 1
      focus (refine Or.inl ⟨by rfl, ?_⟩; intro wq hSw; go_simp; try with_reducible rfl)
      try simp only [Act.put, List.setIfInBounds_toArray, List.set_cons_zero, List.set_cons_succ]
      refine Rk.wpAnyK_ready (rs := [3]) (by kernel_rfl) (by simp) ?_
      refine Rk.AllReadyK.cons rfl (fun KK hKK => ?_) Rk.AllReadyK.nil
      go_simp
      refine (below_draw _ cb B a0 len0 cap0 (went_of_below HM5.out.dr (below_drew' (Below.refl _ _))).dr 9 (by omega) (by omega)).mono ?_
      rintro e w6 ⟨⟨y, rfl, hy0, hy1⟩, hw6⟩
      have HM6 := Lib.hid ((HM5.out.below (below_drew' (Below.refl _ _))).went hw6)
      dsimp only
      refine hKK.out _ _ ⟨HM6.out.x.c0, HM6.out.x.c1⟩ (fun hHeld => ?_)
      clear hKK
      try simp only [Act.put, List.setIfInBounds_toArray, List.set_cons_zero, List.set_cons_succ]
      refine Rk.wpAnyK_take (i := 4) (oi := { dst := some _, op := _, type := _, pos := _, after := _, guard := _ }) (v := ?_) rfl (by kernel_rfl) (by kernel_rfl) (by kernel_rfl) (by kernel_rfl) (by kernel_rfl) (fun _ _ _ h => h) ?_ (by assumption) ?_
      rotate_left 1
      focus (refine Or.inl ⟨by rfl, ?_⟩; intro wq hSw; go_simp; try with_reducible rfl)
      try simp only [Act.put, List.setIfInBounds_toArray, List.set_cons_zero, List.set_cons_succ]
      refine Rk.wpAnyK_take (i := 5) (oi := { dst := some _, op := _, type := _, pos := _, after := _, guard := _ }) (v := ?_) rfl (by kernel_rfl) (by kernel_rfl) (by kernel_rfl) (by kernel_rfl) (by kernel_rfl) (fun _ _ _ h => h) ?_ (by assumption) ?_
      rotate_left 1
      focus (refine Or.inl ⟨by rfl, ?_⟩; intro wq hSw; go_simp; try with_reducible rfl)
      try simp only [Act.put, List.setIfInBounds_toArray, List.set_cons_zero, List.set_cons_succ]
      refine Rk.wpAnyK_ready (rs := [6]) (by kernel_rfl) (by simp) ?_
      refine Rk.AllReadyK.cons rfl (fun KK hKK => ?_) Rk.AllReadyK.nil
      go_simp
      obtain ⟨X, hX⟩ : ∃ X, X = IntKind.i64.wrap (IntKind.i64.wrap (now + 1) + z) := ⟨_, rfl⟩
      obtain ⟨Y, hY⟩ : ∃ Y, Y = IntKind.i64.wrap (1 + y) := ⟨_, rfl⟩
      rw [← hX, ← hY]
      clear hX hY
      refine (specSetTimer_any _ a n cap now l X Y HM6.out.own.isN (by have := HL.out; have := HNL.out; omega) HM6.out.own.nilcap).mono ?_
      rintro e w7 ⟨⟨a7, cap7, rfl, ho7⟩, hb7⟩
      have HM7 := Lib.hid (HM6.out.below hb7)
      have HM8 := Lib.hid (HM6.out.put hb7 ho7 now)
      have HL7 := Lib.hid (fun (t : T) => setR_le (now := now) (t := t) HL.out)
      dsimp only
      refine hKK.out _ _ ⟨HM7.out.x.c0, HM7.out.x.c1⟩ (fun hHeld => ?_)
      clear hKK c0 c1 f0 f1 d0 d1 g0 g1 l2 l3
      obtain ⟨c0, c1, f0, f1, d0, d1, g0, g1, l2, l3⟩ := HM7.out.cells
      try simp only [Act.put, List.setIfInBounds_toArray, List.set_cons_zero, List.set_cons_succ]
      refine Rk.wpAnyK_take (i := 7) (oi := { dst := some _, op := _, type := _, pos := _, after := _, guard := _ }) (v := ?_) rfl (by kernel_rfl) (by kernel_rfl) (by kernel_rfl) (by kernel_rfl) (by kernel_rfl) (fun _ _ _ h => h) ?_ (by assumption) ?_
      rotate_left 1
      focus (refine Or.inl ⟨by rfl, ?_⟩; intro wq hSw; go_simp; try with_reducible rfl)
      try simp only [Act.put, List.setIfInBounds_toArray, List.set_cons_zero, List.set_cons_succ]
      refine Rk.wpAnyK_take (i := 8) (oi := { dst := some _, op := _, type := _, pos := _, after := _, guard := _ }) (v := ?_) rfl (by kernel_rfl) (by kernel_rfl) (by kernel_rfl) (by kernel_rfl) (by kernel_rfl) (fun _ _ _ h => h) ?_ (by assumption) ?_
      rotate_left 1
      focus (refine Or.inl ⟨by rfl, ?_⟩; intro wq hSw; go_simp; try with_reducible rfl)
      try simp only [Act.put, List.setIfInBounds_toArray, List.set_cons_zero, List.set_cons_succ]
      refine Rk.wpAnyK_free (i := 9) (oi := { dst := some _, op := _, type := _, pos := _, after := _, guard := _ }) (v := ?_) rfl (by kernel_rfl) (by kernel_rfl) (by kernel_rfl) (by kernel_rfl) (by kernel_rfl) (fun _ _ _ h => h) ?_ (fun _ => by assumption) ?_
      rotate_left 1
      focus (refine Or.inl ⟨by rfl, ?_⟩; intro wq hSw; go_simp; try with_reducible rfl)
      try simp only [Act.put, List.setIfInBounds_toArray, List.set_cons_zero, List.set_cons_succ]
      refine Rk.wpAnyK_ready (rs := [10]) (by kernel_rfl) (by simp) ?_
      refine Rk.AllReadyK.last rfl (fun KK hKK => ?_)
      go_simp
      refine hKK.out _ _ ?_
      clear hKK
      refine Rk.wpAnyK_done (by kernel_rfl) ?_ _
      go_wp2_with fail
      go_roundw
      case rel => exact ⟨j + 1, a7, _, cap7, _, by omega, by go_num, Lib.hid (HL7.out _), Lib.hid rfl, HM8⟩
      case measure => simp [intOf]; omega
    · have hjk : (j : Int) = k := by omega
      have hd : decide ((j : Int) < k) = false := by simp; omega
      have HDN := Lib.hid (fun u v => HM.out.done u v)
      go_wp2_with fail
      exact bodyPost_ret (v := .agg #[.int .i64 now, .slice a n cap]) (by simp [results, Tryd.results58, go_sem, c0, c1, d0, d1, l2, l3]) rfl ⟨⟨now, a, n, cap, l, rfl, (HDN.out _ _).1, by have := HL.out; have := HNL.out; omega, HNL.out, by omega, by omega⟩, (HDN.out _ _).2⟩
end Go.Proofs.YtkoliacbajpijaaDoor.Whl
