/-
  The walk of spec's l02Odd.
-/
import Derived.Test.YtkoliacbajpijaaDoorMkdW
namespace Go.Proofs.YtkoliacbajpijaaDoor.Whl
open Go.RowKit Go.Maps Go.Proofs.YtkoliacbajpijaaDoor.Kit Go.Proofs.YtkoliacbajpijaaDoor.Draw
set_option linter.unusedVariables false
set_option linter.unusedSimpArgs false

def py (z : Int) : Prop := 0 ≤ z ∧ z ≤ 10000
theorem py_of {z : Int} (h : 0 ≤ z) (h1 : z ≤ 10000) : ∃ y : Int, Value.int .i64 z = .int .i64 y ∧ py y := ⟨z, rfl, h, h1⟩
theorem nums_o1 : ∀ (W : World), Nums (W.alloc (.cells #[.int .i64 (-1), .int .i64 1000000000, .int .i64 1000000001] 3)) W.heap.size 3 pz := fun W => nums_new W [.int .i64 (-1), .int .i64 1000000000, .int .i64 1000000001] 3 pz (by
  intro v hv
  simp only [List.mem_cons, List.mem_nil_iff, or_false] at hv
  rcases hv with rfl | rfl | rfl <;> exact pz_of (by omega) (by omega))
theorem nums_o2 : ∀ (W : World), Nums (W.alloc (.cells #[.int .i64 0, .int .i64 3, .int .i64 9999, .int .i64 10000] 3)) W.heap.size 4 py := fun W => nums_new W [.int .i64 0, .int .i64 3, .int .i64 9999, .int .i64 10000] 3 py (by
  intro v hv
  simp only [List.mem_cons, List.mem_nil_iff, or_false] at hv
  rcases hv with rfl | rfl | rfl | rfl <;> exact py_of (by omega) (by omega))
theorem nums_went {B cb len cap g n : Nat} {w w' : World} {a : Option Addr} {Pz : Int → Prop} (h : Nums w g n Pz) (hw : Went B w w' cb 85 a len cap) (hg : g ≠ cb) : Nums w' g n Pz := by
  intro j hj
  obtain ⟨z, hz, hc⟩ := h j hj
  exact ⟨z, hz, hw.grown.cell hc (by simpa using hg)⟩

set_option maxRecDepth 100000 in
set_option maxHeartbeats 4000000 in
theorem odd_draw (w : World) (cb B : Nat) (a0 : Option Addr) (len0 cap0 : Nat) (hd : Dr B w cb 85 a0 len0 cap0) :
    Calls Tryd.prog 39 #[.pointer (some ⟨cb, 0, none⟩)] w fun e w' => WhD 62 B w w' cb a0 len0 cap0 e := by
  have hcb := hd.cur.lt
  have HD := Lib.hid hd
  clear hd
  go_enter Tryd.func39, Tryd.ntmps39
  go_wp2_with fail
  have HW1 := Lib.hid (show Went B w (w.alloc (.cells #[.int .i64 0, .slice none 0 0] 26)) cb 85 a0 len0 cap0 from went_of_below HD.out (bOne _ _))
  refine (make_draw _ cb B a0 len0 cap0 HW1.out.dr).mono ?_
  rintro e w2 ⟨⟨now, a, n, cap, l, rfl, ho, hn, hnl, hz0, hz1⟩, hw2⟩
  have hzb : Bz w2 w.heap.size := ⟨(Bz.new w).box.grown hw2.grown (by simp; omega), (Bz.new w).fro.grown (Bz.new w).box.lt hw2.grown (by simp; omega)⟩
  have hm := MkS.new (w := w) hw2.dr (HW1.out.trans hw2).grown hcb hzb (Nat.le_refl _) now (ho.base (by simp)) (fun j hj => by have := (World.ownsRow.lt ho j hj).1; simp at this; omega)
  have HM := Lib.hid hm
  have HNL := Lib.hid hnl
  clear hw2 hm HW1 hzb ho hnl
  obtain ⟨c0, c1, f0, f1, d0, d1, g0, g1, l2, l3⟩ := HM.out.cells
  go_wp2_with fail
  obtain ⟨w3, hw3⟩ : ∃ w3, w3 = w2.alloc (.cells #[.int .i64 now, .slice a n cap] 26) := ⟨_, rfl⟩
  rw [← hw3] at HM c0 c1 f0 f1 d0 d1 g0 g1 l2 l3 ⊢
  clear hw3
  obtain ⟨b3, hb3⟩ : ∃ b3, b3 = w2.heap.size := ⟨_, rfl⟩
  rw [← hb3] at HM d0 d1 g0 g1 l3 ⊢
  clear hb3
  obtain ⟨b2, hb2⟩ : ∃ b2, b2 = w.heap.size := ⟨_, rfl⟩
  rw [← hb2] at HM c0 c1 f0 f1 l2 ⊢
  have HB2 := Lib.hid hb2
  clear hb2
  refine (below_draw _ cb B a0 len0 cap0 HM.out.dr 12 (by omega) (by omega)).mono ?_
  rintro e w4 ⟨⟨k, rfl, hk0, hk1⟩, hw4⟩
  have HM4 := Lib.hid (HM.out.went hw4)
  clear hw4 c0 c1 f0 f1 d0 d1 g0 g1 l2 l3 HM
  obtain ⟨c0, c1, f0, f1, d0, d1, g0, g1, l2, l3⟩ := HM4.out.cells
  by_cases h0 : k = 0
  · subst h0
    go_wp2_with fail
    have hn4 := nums_o1 w4
    have HBD := Lib.hid (bOne w4 (.cells #[.int .i64 (-1), .int .i64 1000000000, .int .i64 1000000001] 3))
    with_reducible refine (pickInt_draw _ cb B a0 len0 cap0 (went_of_below HM4.out.dr HBD.out).dr w4.heap.size 3 pz hn4 (by have := HM4.out.dr.cur.lt; omega) (by simp) (by omega) (by omega)).mono ?_
    rintro e w5 ⟨⟨z, rfl, hz⟩, hw5⟩
    have HM5 := Lib.hid ((HM4.out.below HBD.out).went hw5)
    have HM6 := Lib.hid (HM5.out.setNow z)
    unfold pz at hz
    obtain ⟨hy0, hy1⟩ := hz
    clear hw5 hn4 c0 c1 f0 f1 d0 d1 g0 g1 l2 l3
    obtain ⟨c0, c1, f0, f1, d0, d1, g0, g1, l2, l3⟩ := HM5.out.cells
    have hne := HM5.out.ne
    have hne' := Ne.symm hne
    go_wp2_with fail
    have HDN := Lib.hid (fun u v => HM6.out.done u v)
    exact bodyPost_ret (v := .agg #[.int .i64 z, .slice a n cap]) (by simp [results, Tryd.results39, go_sem, c0, c1, d0, d1, l2, l3, HM5.out.ne, Ne.symm HM5.out.ne]) rfl ⟨⟨z, a, n, cap, l, rfl, (HDN.out _ _).1, by omega, HNL.out, by omega, by omega⟩, (HDN.out _ _).2⟩
  by_cases h1 : k = 1
  · subst h1
    go_upto_region 6 with fail
    have HMd := Lib.hid (HM4.out.below (below_drew' (Below.refl _ _)))
    refine Rk.wp_region_K (k := 14) (S := fun w' => w'.cell? ⟨b3, 0, none⟩ = some (.int .i64 now) ∧ w'.cell? ⟨b3, 1, none⟩ = some (.slice a n cap)) (by kernel_rfl) ⟨d0, d1⟩ (fun hHeld => ?_)
    refine Rk.wpAnyK_take (i := 0) (oi := { dst := some _, op := _, type := _, pos := _, after := _, guard := _ }) (v := ?_) rfl (by kernel_rfl) (by kernel_rfl) (by kernel_rfl) (by kernel_rfl) (by kernel_rfl) (fun _ _ _ h => h) ?_ (by assumption) ?_
    rotate_left 1
    focus (refine Or.inl ⟨by rfl, ?_⟩; intro wq hSw; go_simp; try with_reducible rfl)
    try simp only [Act.put, List.setIfInBounds_toArray, List.set_cons_zero, List.set_cons_succ]
    refine Rk.wpAnyK_take (i := 1) (oi := { dst := some _, op := _, type := _, pos := _, after := _, guard := _ }) (v := ?_) rfl (by kernel_rfl) (by kernel_rfl) (by kernel_rfl) (by kernel_rfl) (by kernel_rfl) (fun _ _ _ h => h) ?_ (by assumption) ?_
    rotate_left 1
    focus (refine Or.inl ⟨by rfl, ?_⟩; intro wq hSw; obtain ⟨s0, s1⟩ := hSw; go_simp; try with_reducible rfl)
    try simp only [Act.put, List.setIfInBounds_toArray, List.set_cons_zero, List.set_cons_succ]
    refine Rk.wpAnyK_take (i := 2) (oi := { dst := some _, op := _, type := _, pos := _, after := _, guard := _ }) (v := ?_) rfl (by kernel_rfl) (by kernel_rfl) (by kernel_rfl) (by kernel_rfl) (by kernel_rfl) (fun _ _ _ h => h) ?_ (by assumption) ?_
    rotate_left 1
    focus (refine Or.inl ⟨by rfl, ?_⟩; intro wq hSw; go_simp; try with_reducible rfl)
    try simp only [Act.put, List.setIfInBounds_toArray, List.set_cons_zero, List.set_cons_succ]
    refine Rk.wpAnyK_take (i := 3) (oi := { dst := some _, op := _, type := _, pos := _, after := _, guard := _ }) (v := ?_) rfl (by kernel_rfl) (by kernel_rfl) (by kernel_rfl) (by kernel_rfl) (by kernel_rfl) (fun _ _ _ h => h) ?_ (by assumption) ?_
    rotate_left 1
    focus (refine Or.inl ⟨by rfl, ?_⟩; intro wq hSw; obtain ⟨s0, s1⟩ := hSw; go_simp; try with_reducible rfl)
    try simp only [Act.put, List.setIfInBounds_toArray, List.set_cons_zero, List.set_cons_succ]
    refine Rk.wpAnyK_take (i := 4) (oi := { dst := some _, op := _, type := _, pos := _, after := _, guard := _ }) (v := ?_) rfl (by kernel_rfl) (by kernel_rfl) (by kernel_rfl) (by kernel_rfl) (by kernel_rfl) (fun _ _ _ h => h) ?_ (by assumption) ?_
    rotate_left 1
    focus (refine Or.inl ⟨by rfl, ?_⟩; intro wq hSw; go_simp; try with_reducible rfl)
    try simp only [Act.put, List.setIfInBounds_toArray, List.set_cons_zero, List.set_cons_succ]
    refine Rk.wpAnyK_take (i := 7) (oi := { dst := some _, op := _, type := _, pos := _, after := _, guard := _ }) (v := ?_) rfl (by kernel_rfl) (by kernel_rfl) (by kernel_rfl) (by kernel_rfl) (by kernel_rfl) (fun _ _ _ h => h) ?_ (by assumption) ?_
    rotate_left 1
    focus (refine Or.inl ⟨by rfl, ?_⟩; intro wq hSw; go_simp; try with_reducible rfl)
    try simp only [Act.put, List.setIfInBounds_toArray, List.set_cons_zero, List.set_cons_succ]
    refine Rk.wpAnyK_ready (rs := [5, 8]) (by kernel_rfl) (by simp) ?_
    refine Rk.AllReadyK.cons rfl (fun KK hKK => ?_) ?_
    · go_simp
      refine (below_draw _ cb B a0 len0 cap0 HMd.out.dr 3 (by omega) (by omega)).mono ?_
      rintro e w5 ⟨⟨x, rfl, hx0, hx1⟩, hw5⟩
      have HM5 := Lib.hid (HMd.out.went hw5)
      clear hw5
      dsimp only
      refine hKK.out _ _ ⟨HM5.out.x.c0, HM5.out.x.c1⟩ (fun hHeld => ?_)
      clear hKK
      try simp only [Act.put, List.setIfInBounds_toArray, List.set_cons_zero, List.set_cons_succ]
      refine Rk.wpAnyK_take (i := 6) (oi := { dst := some _, op := _, type := _, pos := _, after := _, guard := _ }) (v := ?_) rfl (by kernel_rfl) (by kernel_rfl) (by kernel_rfl) (by kernel_rfl) (by kernel_rfl) (fun _ _ _ h => h) ?_ (by assumption) ?_
      rotate_left 1
      focus (refine Or.inl ⟨by rfl, ?_⟩; intro wq hSw; go_simp; try with_reducible rfl)
      try simp only [Act.put, List.setIfInBounds_toArray, List.set_cons_zero, List.set_cons_succ]
      refine Rk.wpAnyK_ready (rs := [8]) (by kernel_rfl) (by simp) ?_
      refine Rk.AllReadyK.cons rfl (fun KK hKK => ?_) Rk.AllReadyK.nil
      go_simp
      have HNX := Lib.hid (nums_o2 w5)
      have HBX := Lib.hid (bOne w5 (.cells #[.int .i64 0, .int .i64 3, .int .i64 9999, .int .i64 10000] 3))
      have HMX := Lib.hid (HM5.out.below HBX.out)
      have HNE := Lib.hid (show w5.heap.size ≠ cb by have := HM5.out.dr.cur.lt; omega)
      refine hKK.out _ _ ⟨HMX.out.x.c0, HMX.out.x.c1⟩ (fun hHeld => ?_)
      clear hKK
      try simp only [Act.put, List.setIfInBounds_toArray, List.set_cons_zero, List.set_cons_succ]
      refine Rk.wpAnyK_ready (rs := [9]) (by kernel_rfl) (by simp) ?_
      refine Rk.AllReadyK.cons rfl (fun KK hKK => ?_) Rk.AllReadyK.nil
      go_simp
      refine (pickInt_draw _ cb B a0 len0 cap0 HMX.out.dr w5.heap.size 4 py HNX.out HNE.out (by simp) (by omega) (by omega)).mono ?_
      rintro e w6 ⟨⟨y, rfl, hy⟩, hw6⟩
      have HM6 := Lib.hid (HMX.out.went hw6)
      clear hy hw6
      dsimp only
      refine hKK.out _ _ ⟨HM6.out.x.c0, HM6.out.x.c1⟩ (fun hHeld => ?_)
      clear hKK
      try simp only [Act.put, List.setIfInBounds_toArray, List.set_cons_zero, List.set_cons_succ]
      refine Rk.wpAnyK_take (i := 10) (oi := { dst := some _, op := _, type := _, pos := _, after := _, guard := _ }) (v := ?_) rfl (by kernel_rfl) (by kernel_rfl) (by kernel_rfl) (by kernel_rfl) (by kernel_rfl) (fun _ _ _ h => h) ?_ (by assumption) ?_
      rotate_left 1
      focus (refine Or.inl ⟨by rfl, ?_⟩; intro wq hSw; go_simp; try with_reducible rfl)
      try simp only [Act.put, List.setIfInBounds_toArray, List.set_cons_zero, List.set_cons_succ]
      refine Rk.wpAnyK_ready (rs := [11]) (by kernel_rfl) (by simp) ?_
      refine Rk.AllReadyK.cons rfl (fun KK hKK => ?_) Rk.AllReadyK.nil
      go_simp
      obtain ⟨X, hX⟩ : ∃ X, X = IntKind.i64.wrap (now + x) := ⟨_, rfl⟩
      rw [← hX]
      clear hX
      have HB7 := Lib.hid (bOne w6 (.cells #[.int .i64 X, .int .i64 y] 28))
      have HM7 := Lib.hid (HM6.out.below HB7.out)
      have HT7 := Lib.hid (tis_one w6 X y)
      refine hKK.out _ _ ⟨HM7.out.x.c0, HM7.out.x.c1⟩ (fun hHeld => ?_)
      clear hKK
      try simp only [Act.put, List.setIfInBounds_toArray, List.set_cons_zero, List.set_cons_succ]
      refine Rk.wpAnyK_ready (rs := [12]) (by kernel_rfl) (by simp) ?_
      refine Rk.AllReadyK.cons rfl (fun KK hKK => ?_) Rk.AllReadyK.nil
      refine step_append_run rfl (.tmp 18) (.tmp 28) _ rfl (.slice a n cap) _ (by simp [Act.eval, Act.put]) (by simp [Act.eval, Act.put]) (app_tis (cap := 1) HM7.out.own HT7.out (fun e => by cases e) (by have := HNL.out; omega) HM7.out.g.size) ?_
      intro v8 w8 happ
      obtain ⟨a8, n8, cp8, rfl⟩ := happ.form
      have hn8 : n8 = l.length + 1 := by
        obtain ⟨a', c', e⟩ := happ.1.shape
        simp only [Value.slice.injEq] at e
        rw [e.2.1]
        simp
      have HN8 := Lib.hid hn8
      have hat := HM7.out.app_at (Below.refl _ _) happ
      have HM8 := Lib.hid (HM7.out.app (Below.refl _ _) happ)
      clear happ hn8 c0 c1 f0 f1 d0 d1 g0 g1 l2 l3
      obtain ⟨hx8, hf8, hl8, _⟩ := hat
      have d0 := hx8.c0
      have d1 := hx8.c1
      have g0 := hf8.f0
      have g1 := hf8.f1
      refine hKK.out _ _ ⟨d0, d1⟩ (fun hHeld => ?_)
      clear hKK hx8 hf8
      try simp only [Act.put, List.setIfInBounds_toArray, List.set_cons_zero, List.set_cons_succ]
      refine Rk.wpAnyK_take (i := 13) (oi := { dst := some _, op := _, type := _, pos := _, after := _, guard := _ }) (v := ?_) rfl (by kernel_rfl) (by kernel_rfl) (by kernel_rfl) (by kernel_rfl) (by kernel_rfl) (fun _ _ _ h => h) ?_ (by assumption) ?_
      rotate_left 1
      focus (refine Or.inl ⟨by rfl, ?_⟩; intro wq hSw; go_simp; try with_reducible rfl)
      try simp only [Act.put, List.setIfInBounds_toArray, List.set_cons_zero, List.set_cons_succ]
      refine Rk.wpAnyK_ready (rs := [14]) (by kernel_rfl) (by simp) ?_
      refine Rk.AllReadyK.last rfl (fun KK hKK => ?_)
      go_simp
      refine hKK.out _ _ ?_
      clear hKK d0 d1 g0 g1
      refine Rk.wpAnyK_done (by kernel_rfl) ?_ _
      obtain ⟨w9, hw9⟩ : ∃ w9, w9 = w8.setCell ⟨b3, 1, none⟩ (.slice a8 n8 cp8) := ⟨_, rfl⟩
      rw [← hw9] at HM8 ⊢
      clear hw9
      obtain ⟨c0, c1, f0, f1, d0, d1, g0, g1, l2, l3⟩ := HM8.out.cells
      have HDN := Lib.hid (fun u v => HM8.out.done u v)
      go_wp2_with fail
      exact bodyPost_ret (v := .agg #[.int .i64 now, .slice a8 n8 cp8]) (by simp [results, Tryd.results39, go_sem, c0, c1, d0, d1, l2, l3]) rfl ⟨⟨now, a8, n8, cp8, _, rfl, (HDN.out _ _).1, by have := HN8.out; have := HNL.out; omega, by have := HN8.out; simpa using this, by omega, by omega⟩, (HDN.out _ _).2⟩
    · refine Rk.AllReadyK.cons rfl (fun KK hKK => ?_) Rk.AllReadyK.nil
      go_simp
      have HNX := Lib.hid (show Nums (w4.drew.alloc (.cells #[.int .i64 0, .int .i64 3, .int .i64 9999, .int .i64 10000] 3)) w4.heap.size 4 py from nums_o2 w4.drew)
      have HBX := Lib.hid (show Below w4.drew.heap.size w4.drew (w4.drew.alloc (.cells #[.int .i64 0, .int .i64 3, .int .i64 9999, .int .i64 10000] 3)) from bOne _ _)
      have HMX := Lib.hid (HMd.out.below HBX.out)
      have HNE := Lib.hid (show w4.heap.size ≠ cb by have := HM4.out.dr.cur.lt; omega)
      have HLX := Lib.hid (show w4.heap.size < (w4.drew.alloc (.cells #[.int .i64 0, .int .i64 3, .int .i64 9999, .int .i64 10000] 3)).heap.size by simp)
      refine hKK.out _ _ ⟨HMX.out.x.c0, HMX.out.x.c1⟩ (fun hHeld => ?_)
      clear hKK
      try simp only [Act.put, List.setIfInBounds_toArray, List.set_cons_zero, List.set_cons_succ]
      refine Rk.wpAnyK_ready (rs := [5]) (by kernel_rfl) (by simp) ?_
      refine Rk.AllReadyK.cons rfl (fun KK hKK => ?_) Rk.AllReadyK.nil
      go_simp
      refine (below_draw _ cb B a0 len0 cap0 HMX.out.dr 3 (by omega) (by omega)).mono ?_
      rintro e w5 ⟨⟨x, rfl, hx0, hx1⟩, hw5⟩
      have HM5 := Lib.hid (HMX.out.went hw5)
      have HNY := Lib.hid (nums_went HNX.out hw5 HNE.out)
      have HG5 := Lib.hid hw5.grown.size
      clear hw5
      dsimp only
      refine hKK.out _ _ ⟨HM5.out.x.c0, HM5.out.x.c1⟩ (fun hHeld => ?_)
      clear hKK
      try simp only [Act.put, List.setIfInBounds_toArray, List.set_cons_zero, List.set_cons_succ]
      refine Rk.wpAnyK_take (i := 6) (oi := { dst := some _, op := _, type := _, pos := _, after := _, guard := _ }) (v := ?_) rfl (by kernel_rfl) (by kernel_rfl) (by kernel_rfl) (by kernel_rfl) (by kernel_rfl) (fun _ _ _ h => h) ?_ (by assumption) ?_
      rotate_left 1
      focus (refine Or.inl ⟨by rfl, ?_⟩; intro wq hSw; go_simp; try with_reducible rfl)
      try simp only [Act.put, List.setIfInBounds_toArray, List.set_cons_zero, List.set_cons_succ]
      refine Rk.wpAnyK_ready (rs := [9]) (by kernel_rfl) (by simp) ?_
      refine Rk.AllReadyK.cons rfl (fun KK hKK => ?_) Rk.AllReadyK.nil
      go_simp
      refine (pickInt_draw _ cb B a0 len0 cap0 HM5.out.dr w4.heap.size 4 py HNY.out HNE.out (Nat.lt_of_lt_of_le HLX.out HG5.out) (by omega) (by omega)).mono ?_
      rintro e w6 ⟨⟨y, rfl, hy⟩, hw6⟩
      have HM6 := Lib.hid (HM5.out.went hw6)
      clear hy hw6
      dsimp only
      refine hKK.out _ _ ⟨HM6.out.x.c0, HM6.out.x.c1⟩ (fun hHeld => ?_)
      clear hKK
      try simp only [Act.put, List.setIfInBounds_toArray, List.set_cons_zero, List.set_cons_succ]
      refine Rk.wpAnyK_take (i := 10) (oi := { dst := some _, op := _, type := _, pos := _, after := _, guard := _ }) (v := ?_) rfl (by kernel_rfl) (by kernel_rfl) (by kernel_rfl) (by kernel_rfl) (by kernel_rfl) (fun _ _ _ h => h) ?_ (by assumption) ?_
      rotate_left 1
      focus (refine Or.inl ⟨by rfl, ?_⟩; intro wq hSw; go_simp; try with_reducible rfl)
      try simp only [Act.put, List.setIfInBounds_toArray, List.set_cons_zero, List.set_cons_succ]
      refine Rk.wpAnyK_ready (rs := [11]) (by kernel_rfl) (by simp) ?_
      refine Rk.AllReadyK.cons rfl (fun KK hKK => ?_) Rk.AllReadyK.nil
      go_simp
      obtain ⟨X, hX⟩ : ∃ X, X = IntKind.i64.wrap (now + x) := ⟨_, rfl⟩
      rw [← hX]
      clear hX
      have HB7 := Lib.hid (bOne w6 (.cells #[.int .i64 X, .int .i64 y] 28))
      have HM7 := Lib.hid (HM6.out.below HB7.out)
      have HT7 := Lib.hid (tis_one w6 X y)
      refine hKK.out _ _ ⟨HM7.out.x.c0, HM7.out.x.c1⟩ (fun hHeld => ?_)
      clear hKK
      try simp only [Act.put, List.setIfInBounds_toArray, List.set_cons_zero, List.set_cons_succ]
      refine Rk.wpAnyK_ready (rs := [12]) (by kernel_rfl) (by simp) ?_
      refine Rk.AllReadyK.cons rfl (fun KK hKK => ?_) Rk.AllReadyK.nil
      refine step_append_run rfl (.tmp 18) (.tmp 28) _ rfl (.slice a n cap) _ (by simp [Act.eval, Act.put]) (by simp [Act.eval, Act.put]) (app_tis (cap := 1) HM7.out.own HT7.out (fun e => by cases e) (by have := HNL.out; omega) HM7.out.g.size) ?_
      intro v8 w8 happ
      obtain ⟨a8, n8, cp8, rfl⟩ := happ.form
      have hn8 : n8 = l.length + 1 := by
        obtain ⟨a', c', e⟩ := happ.1.shape
        simp only [Value.slice.injEq] at e
        rw [e.2.1]
        simp
      have HN8 := Lib.hid hn8
      have hat := HM7.out.app_at (Below.refl _ _) happ
      have HM8 := Lib.hid (HM7.out.app (Below.refl _ _) happ)
      clear happ hn8 c0 c1 f0 f1 d0 d1 g0 g1 l2 l3
      obtain ⟨hx8, hf8, hl8, _⟩ := hat
      have d0 := hx8.c0
      have d1 := hx8.c1
      have g0 := hf8.f0
      have g1 := hf8.f1
      refine hKK.out _ _ ⟨d0, d1⟩ (fun hHeld => ?_)
      clear hKK hx8 hf8
      try simp only [Act.put, List.setIfInBounds_toArray, List.set_cons_zero, List.set_cons_succ]
      refine Rk.wpAnyK_take (i := 13) (oi := { dst := some _, op := _, type := _, pos := _, after := _, guard := _ }) (v := ?_) rfl (by kernel_rfl) (by kernel_rfl) (by kernel_rfl) (by kernel_rfl) (by kernel_rfl) (fun _ _ _ h => h) ?_ (by assumption) ?_
      rotate_left 1
      focus (refine Or.inl ⟨by rfl, ?_⟩; intro wq hSw; go_simp; try with_reducible rfl)
      try simp only [Act.put, List.setIfInBounds_toArray, List.set_cons_zero, List.set_cons_succ]
      refine Rk.wpAnyK_ready (rs := [14]) (by kernel_rfl) (by simp) ?_
      refine Rk.AllReadyK.last rfl (fun KK hKK => ?_)
      go_simp
      refine hKK.out _ _ ?_
      clear hKK d0 d1 g0 g1
      refine Rk.wpAnyK_done (by kernel_rfl) ?_ _
      obtain ⟨w9, hw9⟩ : ∃ w9, w9 = w8.setCell ⟨b3, 1, none⟩ (.slice a8 n8 cp8) := ⟨_, rfl⟩
      rw [← hw9] at HM8 ⊢
      clear hw9
      obtain ⟨c0, c1, f0, f1, d0, d1, g0, g1, l2, l3⟩ := HM8.out.cells
      have HDN := Lib.hid (fun u v => HM8.out.done u v)
      go_wp2_with fail
      exact bodyPost_ret (v := .agg #[.int .i64 now, .slice a8 n8 cp8]) (by simp [results, Tryd.results39, go_sem, c0, c1, d0, d1, l2, l3]) rfl ⟨⟨now, a8, n8, cp8, _, rfl, (HDN.out _ _).1, by have := HN8.out; have := HNL.out; omega, by have := HN8.out; simpa using this, by omega, by omega⟩, (HDN.out _ _).2⟩
  by_cases h2 : k = 2
  · subst h2
    have HM6 := Lib.hid (HM4.out.setList (a' := none) (n' := 0) (cap' := 0) (l' := []) (World.ownsRow_nil _ _ _ _) (fun j hj => by simp [Value.ownBlock] at hj))
    go_wp2_with fail
    obtain ⟨w5, hw5⟩ : ∃ w5, w5 = w4.setCell ⟨b3, 1, none⟩ (.slice none 0 0) := ⟨_, rfl⟩
    rw [← hw5] at HM6 ⊢
    clear hw5 c0 c1 f0 f1 d0 d1 g0 g1 l2 l3
    go_loopw [4] (fun i wr => ∃ (j : Nat) (a : Option Addr) (n cap : Nat) (l : List T), j ≤ 61 ∧ i = .int .i64 j ∧ Hid (l.length = j) ∧ Hid (n = l.length) ∧ Hid (MkS B w wr cb a0 len0 cap0 b2 b3 now a n cap l)) (fun i _ => (62 - intOf i).toNat)
    case atStart => exact ⟨0, none, 0, 0, [], by omega, rfl, Lib.hid rfl, Lib.hid rfl, HM6⟩
    case round =>
      obtain ⟨j, a, n, cap, l, hj, rfl, HL, HNL, HM⟩ := hrel
      obtain ⟨c0, c1, f0, f1, d0, d1, g0, g1, l2, l3⟩ := HM.out.cells
      go_wp2_with fail
      refine (below_draw _ cb B a0 len0 cap0 HM.out.dr 3 (by omega) (by omega)).mono ?_
      rintro e w6 ⟨⟨y, rfl, hy0, hy1⟩, hw6⟩
      have HM6 := Lib.hid (HM.out.went hw6)
      clear hw6 c0 c1 f0 f1 d0 d1 g0 g1 l2 l3
      obtain ⟨c0, c1, f0, f1, d0, d1, g0, g1, l2, l3⟩ := HM6.out.cells
      by_cases hlt : (j : Int) < 59 + y
      · have HT7 := Lib.hid (tis_one w6 (now + 1 + (j : Int)) (10 + (j : Int)))
        have HB7 := Lib.hid (bOne w6 (.cells #[.int .i64 (now + 1 + (j : Int)), .int .i64 (10 + (j : Int))] 28))
        have HM7 := Lib.hid (HM6.out.below HB7.out)
        have hsz : l.length + 1 ≤ 2000000 := by have := HL.out; omega
        have HSZ := Lib.hid hsz
        clear hsz
        go_wp2_with (first | (at_builtin; refine wpList_append_run rfl _ _ _ rfl _ _ (by simp [Act.eval]) (by simp [Act.eval]) (app_tis (cap := 1) HM7.out.own HT7.out (fun e => by cases e) HSZ.out HM7.out.g.size) ?_; intro v8 w8 happ; obtain ⟨a8, n8, cp8, rfl⟩ := happ.form; have HAT := Lib.hid (HM7.out.app_at (Below.refl _ _) happ); have HM8 := Lib.hid (HM7.out.app (Below.refl _ _) happ); have HSH := Lib.hid happ.1.shape; clear happ; have e0 := HAT.out.1.c0; have e1 := HAT.out.1.c1; have e2 := HAT.out.2.1.f0; have e3 := HAT.out.2.1.f1; have e4 := HAT.out.2.2.1) | fail)
        go_roundw
        case rel =>
          obtain ⟨a', c', e⟩ := HSH.out
          simp only [Value.slice.injEq] at e
          exact ⟨j + 1, a8, n8, cp8, _, by omega, by go_num, Lib.hid (by have := HL.out; simp; omega), Lib.hid (by rw [e.2.1]), HM8⟩
        case measure => simp [intOf]; omega
      · have hd : decide ((j : Int) < 59 + y) = false := by simp; omega
        have HDN := Lib.hid (fun u v => HM6.out.done u v)
        go_wp2_with fail
        exact bodyPost_ret (v := .agg #[.int .i64 now, .slice a n cap]) (by simp [results, Tryd.results39, go_sem, c0, c1, d0, d1, l2, l3]) rfl ⟨⟨now, a, n, cap, l, rfl, (HDN.out _ _).1, by have := HL.out; have := HNL.out; omega, HNL.out, by omega, by omega⟩, (HDN.out _ _).2⟩
  have hb0 : (k == 0) = false := by simpa using h0
  have hb1 : (k == 1) = false := by simpa using h1
  have hb2 : (k == 2) = false := by simpa using h2
  clear h0 h1 h2
  have HDN := Lib.hid (fun u v => HM4.out.done u v)
  go_wp2_with fail
  exact bodyPost_ret (v := .agg #[.int .i64 now, .slice a n cap]) (by simp [results, Tryd.results39, go_sem, c0, c1, d0, d1, l2, l3]) rfl ⟨⟨now, a, n, cap, l, rfl, (HDN.out _ _).1, by omega, HNL.out, by omega, by omega⟩, (HDN.out _ _).2⟩
end Go.Proofs.YtkoliacbajpijaaDoor.Whl
