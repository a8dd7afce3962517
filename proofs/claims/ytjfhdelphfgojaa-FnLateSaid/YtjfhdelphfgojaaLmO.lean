/-
  The walk of spec's l05Odd.
-/
import Derived.Test.YtjfhdelphfgojaaLmW
namespace Go.Proofs.Ytjfhdelphfgojaa.Lnk
open Go.RowKit Go.Proofs.Ytjfhdelphfgojaa.Kit Go.Proofs.Ytjfhdelphfgojaa.Draw
set_option linter.unusedVariables false
set_option linter.unusedSimpArgs false

/-- what is drawn of the small lists -/
def pz (z : Int) : Prop := -1 ≤ z ∧ z ≤ 60001
theorem pz_of {z : Int} (h : -1 ≤ z) (h1 : z ≤ 60001) : ∃ y : Int, Value.int .i64 z = .int .i64 y ∧ pz y := ⟨z, rfl, h, h1⟩
def py (z : Int) : Prop := -1 ≤ z ∧ z ≤ 2000000001
theorem py_of {z : Int} (h : -1 ≤ z) (h1 : z ≤ 2000000001) : ∃ y : Int, Value.int .i64 z = .int .i64 y ∧ py y := ⟨z, rfl, h, h1⟩
theorem nums_e : ∀ (W : World), Nums (W.alloc (.cells #[.int .i64 (-1), .int .i64 60000, .int .i64 60001] 3)) W.heap.size 3 pz := fun W => nums_new W [.int .i64 (-1), .int .i64 60000, .int .i64 60001] 3 pz (by
  intro v hv
  simp only [List.mem_cons, List.mem_nil_iff, or_false] at hv
  rcases hv with rfl | rfl | rfl <;> exact pz_of (by omega) (by omega))
theorem nums_s : ∀ (W : World), Nums (W.alloc (.cells #[.int .i64 (-1), .int .i64 0, .int .i64 60000, .int .i64 60001] 3)) W.heap.size 4 pz := fun W => nums_new W [.int .i64 (-1), .int .i64 0, .int .i64 60000, .int .i64 60001] 3 pz (by
  intro v hv
  simp only [List.mem_cons, List.mem_nil_iff, or_false] at hv
  rcases hv with rfl | rfl | rfl | rfl <;> exact pz_of (by omega) (by omega))
theorem nums_u : ∀ (W : World), Nums (W.alloc (.cells #[.int .i64 (-1), .int .i64 3, .int .i64 2000000001] 3)) W.heap.size 3 py := fun W => nums_new W [.int .i64 (-1), .int .i64 3, .int .i64 2000000001] 3 py (by
  intro v hv
  simp only [List.mem_cons, List.mem_nil_iff, or_false] at hv
  rcases hv with rfl | rfl | rfl <;> exact py_of (by omega) (by omega))
theorem nums_went {B cb len cap g n : Nat} {w w' : World} {a : Option Addr} {Pz : Int → Prop} (h : Nums w g n Pz) (hw : Went B w w' cb 74 a len cap) (hg : g ≠ cb) : Nums w' g n Pz := by
  intro j hj
  obtain ⟨z, hz, hc⟩ := h j hj
  exact ⟨z, hz, hw.grown.cell hc (by simpa using hg)⟩

set_option maxRecDepth 100000 in
set_option maxHeartbeats 4000000 in
theorem lnkOdd_draw (w : World) (cb B : Nat) (a0 : Option Addr) (len0 cap0 : Nat) (hd : Dr B w cb 74 a0 len0 cap0) :
    Calls Try.prog 49 #[.pointer (some ⟨cb, 0, none⟩)] w fun e w' => LnD 9 B w w' cb a0 len0 cap0 e := by
  have hcb := hd.cur.lt
  have HD := Lib.hid hd
  clear hd
  go_enter Try.func49, Try.ntmps49
  go_wp2_with fail
  have HW1 := Lib.hid (show Went B w (w.alloc (.cells #[.bool false, .int .i64 0, .int .i64 0, .slice none 0 0] 26)) cb 74 a0 len0 cap0 from went_of_below HD.out (bOne _ _))
  have HZ1 := Lib.hid (B4.new w false 0 0 (.slice none 0 0) 26)
  have HZF := Lib.hid (Fr.new w #[.bool false, .int .i64 0, .int .i64 0, .slice none 0 0] 26)
  refine (lnkMake_draw _ cb B a0 len0 cap0 HW1.out.dr).mono ?_
  rintro e w2 ⟨⟨up, ep, sq, a, n, cap, l, rfl, ho, hn, hnl, hz0, hz1⟩, hw2⟩
  have HW2 := Lib.hid (HW1.out.trans hw2)
  have hne : some cb ≠ some w.heap.size := by intro e; injection e with e; omega
  have hm := Ms.new (w := w) hw2.dr HW2.out.grown hcb (b2 := w.heap.size) (HZ1.out.grown hw2.grown hne) (HZF.out.grown HZ1.out.lt hw2.grown hne) (Nat.le_refl _) up ep sq (ho.base (by simp)) (fun j hj => by have := (World.ownsRow.lt ho j hj).1; simp at this; omega)
  have HM := Lib.hid hm
  have HNL := Lib.hid hnl
  clear hw2 hm HW1 HZ1 HZF HW2 hne ho hnl
  obtain ⟨⟨c0, c1, c2, c3⟩, ⟨f0, f1, f2, f3⟩, ⟨d0, d1, d2, d3⟩, ⟨g0, g1, g2, g3⟩, l2, l3⟩ := HM.out.cells
  go_wp2_with fail
  obtain ⟨w3, hw3⟩ : ∃ w3, w3 = w2.alloc (.cells #[.bool up, .int .i64 ep, .int .i64 sq, .slice a n cap] 26) := ⟨_, rfl⟩
  rw [← hw3] at HM c0 c1 c2 c3 f0 f1 f2 f3 d0 d1 d2 d3 g0 g1 g2 g3 l2 l3 ⊢
  clear hw3
  obtain ⟨b3, hb3⟩ : ∃ b3, b3 = w2.heap.size := ⟨_, rfl⟩
  rw [← hb3] at HM d0 d1 d2 d3 g0 g1 g2 g3 l3 ⊢
  clear hb3
  obtain ⟨b2, hb2⟩ : ∃ b2, b2 = w.heap.size := ⟨_, rfl⟩
  rw [← hb2] at HM c0 c1 c2 c3 f0 f1 f2 f3 l2 ⊢
  have HB2 := Lib.hid hb2
  clear hb2
  refine (below_draw _ cb B a0 len0 cap0 HM.out.dr 12 (by omega) (by omega)).mono ?_
  rintro e w4 ⟨⟨k, rfl, hk0, hk1⟩, hw4⟩
  have HM4 := Lib.hid (HM.out.went hw4)
  clear hw4 c0 c1 c2 c3 f0 f1 f2 f3 d0 d1 d2 d3 g0 g1 g2 g3 l2 l3 HM
  obtain ⟨⟨c0, c1, c2, c3⟩, ⟨f0, f1, f2, f3⟩, ⟨d0, d1, d2, d3⟩, ⟨g0, g1, g2, g3⟩, l2, l3⟩ := HM4.out.cells
  by_cases h0 : k = 0
  · subst h0
    go_wp2_with fail
    have hn4 := nums_e w4
    have HBD := Lib.hid (bOne w4 (.cells #[.int .i64 (-1), .int .i64 60000, .int .i64 60001] 3))
    with_reducible refine (pickInt_draw _ cb B a0 len0 cap0 (went_of_below HM4.out.dr HBD.out).dr w4.heap.size 3 pz hn4 (by have := HM4.out.dr.cur.lt; omega) (by simp) (by omega) (by omega)).mono ?_
    rintro e w5 ⟨⟨z, rfl, hz⟩, hw5⟩
    have HM5 := Lib.hid ((HM4.out.below HBD.out).went hw5)
    have HM6 := Lib.hid (HM5.out.set1 z)
    unfold pz at hz
    obtain ⟨hy0, hy1⟩ := hz
    clear hw5 hn4 c0 c1 c2 c3 f0 f1 f2 f3 d0 d1 d2 d3 g0 g1 g2 g3 l2 l3
    obtain ⟨⟨c0, c1, c2, c3⟩, ⟨f0, f1, f2, f3⟩, ⟨d0, d1, d2, d3⟩, ⟨g0, g1, g2, g3⟩, l2, l3⟩ := HM5.out.cells
    have hne := HM5.out.ne
    have hne' := Ne.symm hne
    have HDN := Lib.hid (fun x0 x1 x2 x3 => HM6.out.done x0 x1 x2 x3)
    go_wp2_with fail
    exact bodyPost_ret (v := .agg #[.bool up, .int .i64 z, .int .i64 sq, .slice a n cap]) (by simp [results, Try.results49, go_sem, c0, c1, c2, c3, d0, d1, d2, d3, l2, l3, hne, hne']) rfl ⟨⟨up, z, sq, a, n, cap, l, rfl, (HDN.out _ _ _ _).1, by omega, HNL.out, by omega, by omega⟩, (HDN.out _ _ _ _).2⟩
  by_cases h1 : k = 1
  · subst h1
    go_wp2_with fail
    have hn4 := nums_s w4
    have HBD := Lib.hid (bOne w4 (.cells #[.int .i64 (-1), .int .i64 0, .int .i64 60000, .int .i64 60001] 3))
    with_reducible refine (pickInt_draw _ cb B a0 len0 cap0 (went_of_below HM4.out.dr HBD.out).dr w4.heap.size 4 pz hn4 (by have := HM4.out.dr.cur.lt; omega) (by simp) (by omega) (by omega)).mono ?_
    rintro e w5 ⟨⟨z, rfl, hz⟩, hw5⟩
    have HM5 := Lib.hid ((HM4.out.below HBD.out).went hw5)
    have HM6 := Lib.hid (HM5.out.set2 z)
    unfold pz at hz
    obtain ⟨hy0, hy1⟩ := hz
    clear hw5 hn4 c0 c1 c2 c3 f0 f1 f2 f3 d0 d1 d2 d3 g0 g1 g2 g3 l2 l3
    obtain ⟨⟨c0, c1, c2, c3⟩, ⟨f0, f1, f2, f3⟩, ⟨d0, d1, d2, d3⟩, ⟨g0, g1, g2, g3⟩, l2, l3⟩ := HM5.out.cells
    have hne := HM5.out.ne
    have hne' := Ne.symm hne
    have HDN := Lib.hid (fun x0 x1 x2 x3 => HM6.out.done x0 x1 x2 x3)
    go_wp2_with fail
    exact bodyPost_ret (v := .agg #[.bool up, .int .i64 ep, .int .i64 z, .slice a n cap]) (by simp [results, Try.results49, go_sem, c0, c1, c2, c3, d0, d1, d2, d3, l2, l3, hne, hne']) rfl ⟨⟨up, ep, z, a, n, cap, l, rfl, (HDN.out _ _ _ _).1, by omega, HNL.out, by omega, by omega⟩, (HDN.out _ _ _ _).2⟩
  by_cases h2 : k = 2
  · subst h2
    have HM6 := Lib.hid (HM4.out.set0 (!up))
    have hne := HM4.out.ne
    have hne' := Ne.symm hne
    have HDN := Lib.hid (fun x0 x1 x2 x3 => HM6.out.done x0 x1 x2 x3)
    go_wp2_with fail
    exact bodyPost_ret (v := .agg #[.bool (!up), .int .i64 ep, .int .i64 sq, .slice a n cap]) (by simp [results, Try.results49, go_sem, c0, c1, c2, c3, d0, d1, d2, d3, l2, l3, hne, hne']) rfl ⟨⟨(!up), ep, sq, a, n, cap, l, rfl, (HDN.out _ _ _ _).1, by omega, HNL.out, by omega, by omega⟩, (HDN.out _ _ _ _).2⟩
  by_cases h3 : k = 3
  · subst h3
    go_upto_region 10 with fail
    have HMd := Lib.hid (HM4.out.below (below_drew' (Below.refl _ _)))
    refine Rk.wp_region_K (k := 13) (S := fun w' => w'.cell? ⟨b3, 0, none⟩ = some (.bool up) ∧ w'.cell? ⟨b3, 1, none⟩ = some (.int .i64 ep) ∧ w'.cell? ⟨b3, 2, none⟩ = some (.int .i64 sq) ∧ w'.cell? ⟨b3, 3, none⟩ = some (.slice a n cap)) (by kernel_rfl) ⟨d0, d1, d2, d3⟩ (fun hHeld => ?_)
    refine Rk.wpAnyK_take (i := 0) (oi := { dst := some _, op := _, type := _, pos := _, after := _, guard := _ }) (v := ?_) rfl (by kernel_rfl) (by kernel_rfl) (by kernel_rfl) (by kernel_rfl) (by kernel_rfl) (fun _ _ _ h => h) ?_ (by assumption) ?_
    rotate_left 1
    focus (refine Or.inl ⟨by rfl, ?_⟩; intro wq hSw; go_simp; try with_reducible rfl)
    try simp only [Act.put, List.setIfInBounds_toArray, List.set_cons_zero, List.set_cons_succ]
    refine Rk.wpAnyK_take (i := 1) (oi := { dst := some _, op := _, type := _, pos := _, after := _, guard := _ }) (v := ?_) rfl (by kernel_rfl) (by kernel_rfl) (by kernel_rfl) (by kernel_rfl) (by kernel_rfl) (fun _ _ _ h => h) ?_ (by assumption) ?_
    rotate_left 1
    focus (refine Or.inl ⟨by rfl, ?_⟩; intro wq hSw; obtain ⟨s0, s1, s2, s3⟩ := hSw; go_simp; try with_reducible rfl)
    try simp only [Act.put, List.setIfInBounds_toArray, List.set_cons_zero, List.set_cons_succ]
    refine Rk.wpAnyK_take (i := 2) (oi := { dst := some _, op := _, type := _, pos := _, after := _, guard := _ }) (v := ?_) rfl (by kernel_rfl) (by kernel_rfl) (by kernel_rfl) (by kernel_rfl) (by kernel_rfl) (fun _ _ _ h => h) ?_ (by assumption) ?_
    rotate_left 1
    focus (refine Or.inl ⟨by rfl, ?_⟩; intro wq hSw; go_simp; try with_reducible rfl)
    try simp only [Act.put, List.setIfInBounds_toArray, List.set_cons_zero, List.set_cons_succ]
    refine Rk.wpAnyK_take (i := 3) (oi := { dst := some _, op := _, type := _, pos := _, after := _, guard := _ }) (v := ?_) rfl (by kernel_rfl) (by kernel_rfl) (by kernel_rfl) (by kernel_rfl) (by kernel_rfl) (fun _ _ _ h => h) ?_ (by assumption) ?_
    rotate_left 1
    focus (refine Or.inl ⟨by rfl, ?_⟩; intro wq hSw; obtain ⟨s0, s1, s2, s3⟩ := hSw; go_simp; try with_reducible rfl)
    try simp only [Act.put, List.setIfInBounds_toArray, List.set_cons_zero, List.set_cons_succ]
    refine Rk.wpAnyK_take (i := 4) (oi := { dst := some _, op := _, type := _, pos := _, after := _, guard := _ }) (v := ?_) rfl (by kernel_rfl) (by kernel_rfl) (by kernel_rfl) (by kernel_rfl) (by kernel_rfl) (fun _ _ _ h => h) ?_ (by assumption) ?_
    rotate_left 1
    focus (refine Or.inl ⟨by rfl, ?_⟩; intro wq hSw; go_simp; try with_reducible rfl)
    try simp only [Act.put, List.setIfInBounds_toArray, List.set_cons_zero, List.set_cons_succ]
    refine Rk.wpAnyK_take (i := 6) (oi := { dst := some _, op := _, type := _, pos := _, after := _, guard := _ }) (v := ?_) rfl (by kernel_rfl) (by kernel_rfl) (by kernel_rfl) (by kernel_rfl) (by kernel_rfl) (fun _ _ _ h => h) ?_ (by assumption) ?_
    rotate_left 1
    focus (refine Or.inl ⟨by rfl, ?_⟩; intro wq hSw; go_simp; try with_reducible rfl)
    try simp only [Act.put, List.setIfInBounds_toArray, List.set_cons_zero, List.set_cons_succ]
    refine Rk.wpAnyK_ready (rs := [5, 7]) (by kernel_rfl) (by simp) ?_
    refine Rk.AllReadyK.cons rfl (fun KK hKK => ?_) ?_
    · go_simp
      refine (below_draw _ cb B a0 len0 cap0 HMd.out.dr 5 (by omega) (by omega)).mono ?_
      rintro e w5 ⟨⟨x, rfl, hx0, hx1⟩, hw5⟩
      have HM5 := Lib.hid (HMd.out.went hw5)
      clear hw5
      dsimp only
      refine hKK.out _ _ ⟨HM5.out.x.c0, HM5.out.x.c1, HM5.out.x.c2, HM5.out.x.c3⟩ (fun hHeld => ?_)
      clear hKK
      try simp only [Act.put, List.setIfInBounds_toArray, List.set_cons_zero, List.set_cons_succ]
      refine Rk.wpAnyK_ready (rs := [7]) (by kernel_rfl) (by simp) ?_
      refine Rk.AllReadyK.cons rfl (fun KK hKK => ?_) Rk.AllReadyK.nil
      go_simp
      have HNX := Lib.hid (nums_u w5)
      have HBX := Lib.hid (bOne w5 (.cells #[.int .i64 (-1), .int .i64 3, .int .i64 2000000001] 3))
      have HMX := Lib.hid (HM5.out.below HBX.out)
      have HNE := Lib.hid (show w5.heap.size ≠ cb by have := HM5.out.dr.cur.lt; omega)
      refine hKK.out _ _ ⟨HMX.out.x.c0, HMX.out.x.c1, HMX.out.x.c2, HMX.out.x.c3⟩ (fun hHeld => ?_)
      clear hKK
      try simp only [Act.put, List.setIfInBounds_toArray, List.set_cons_zero, List.set_cons_succ]
      refine Rk.wpAnyK_ready (rs := [8]) (by kernel_rfl) (by simp) ?_
      refine Rk.AllReadyK.cons rfl (fun KK hKK => ?_) Rk.AllReadyK.nil
      go_simp
      refine (pickInt_draw _ cb B a0 len0 cap0 HMX.out.dr w5.heap.size 3 py HNX.out HNE.out (by simp) (by omega) (by omega)).mono ?_
      rintro e w6 ⟨⟨y, rfl, hy⟩, hw6⟩
      have HM6 := Lib.hid (HMX.out.went hw6)
      clear hy hw6
      dsimp only
      refine hKK.out _ _ ⟨HM6.out.x.c0, HM6.out.x.c1, HM6.out.x.c2, HM6.out.x.c3⟩ (fun hHeld => ?_)
      clear hKK
      try simp only [Act.put, List.setIfInBounds_toArray, List.set_cons_zero, List.set_cons_succ]
      refine Rk.wpAnyK_take (i := 9) (oi := { dst := some _, op := _, type := _, pos := _, after := _, guard := _ }) (v := ?_) rfl (by kernel_rfl) (by kernel_rfl) (by kernel_rfl) (by kernel_rfl) (by kernel_rfl) (fun _ _ _ h => h) ?_ (by assumption) ?_
      rotate_left 1
      focus (refine Or.inl ⟨by rfl, ?_⟩; intro wq hSw; go_simp; try with_reducible rfl)
      try simp only [Act.put, List.setIfInBounds_toArray, List.set_cons_zero, List.set_cons_succ]
      refine Rk.wpAnyK_ready (rs := [10]) (by kernel_rfl) (by simp) ?_
      refine Rk.AllReadyK.cons rfl (fun KK hKK => ?_) Rk.AllReadyK.nil
      go_simp
      have HB7 := Lib.hid (bOne w6 (.cells #[.int .i64 sq, .int .i64 x, .int .i64 y] 40))
      have HM7 := Lib.hid (HM6.out.below HB7.out)
      have HT7 := Lib.hid (yis_one w6 sq x y 40)
      refine hKK.out _ _ ⟨HM7.out.x.c0, HM7.out.x.c1, HM7.out.x.c2, HM7.out.x.c3⟩ (fun hHeld => ?_)
      clear hKK
      try simp only [Act.put, List.setIfInBounds_toArray, List.set_cons_zero, List.set_cons_succ]
      refine Rk.wpAnyK_ready (rs := [11]) (by kernel_rfl) (by simp) ?_
      refine Rk.AllReadyK.cons rfl (fun KK hKK => ?_) Rk.AllReadyK.nil
      refine step_append_run rfl (.tmp 29) (.tmp 38) 24 rfl (.slice a n cap) _ (by simp [Act.eval, Act.put]) (by simp [Act.eval, Act.put]) (app_yis (cap := 1) Try.underlying24 HM7.out.own HT7.out (fun e => by cases e) (by have := HNL.out; omega) HM7.out.g.size) ?_
      intro v8 w8 happ
      obtain ⟨a8, n8, cp8, rfl⟩ := happ.form
      have hn8 : n8 = l.length + 1 := by
        obtain ⟨a', c', e⟩ := happ.1.shape
        simp only [Value.slice.injEq] at e
        rw [e.2.1]
        simp
      have HN8 := Lib.hid hn8
      have hat := HM7.out.app_at (Below.refl _ _) happ
      have HM8 := Lib.hid (HM7.out.app (Below.refl _ _) happ)
      clear happ hn8 c0 c1 c2 c3 f0 f1 f2 f3 d0 d1 d2 d3 g0 g1 g2 g3 l2 l3
      obtain ⟨hx8, hf8, hl8, _⟩ := hat
      obtain ⟨d0, d1, d2, d3, l3⟩ := hx8.cells
      have g0 := hf8 0
      have g1 := hf8 1
      have g2 := hf8 2
      have g3 := hf8 3
      refine hKK.out _ _ ⟨d0, d1, d2, d3⟩ (fun hHeld => ?_)
      clear hKK hx8 hf8
      try simp only [Act.put, List.setIfInBounds_toArray, List.set_cons_zero, List.set_cons_succ]
      refine Rk.wpAnyK_take (i := 12) (oi := { dst := some _, op := _, type := _, pos := _, after := _, guard := _ }) (v := ?_) rfl (by kernel_rfl) (by kernel_rfl) (by kernel_rfl) (by kernel_rfl) (by kernel_rfl) (fun _ _ _ h => h) ?_ (by assumption) ?_
      rotate_left 1
      focus (refine Or.inl ⟨by rfl, ?_⟩; intro wq hSw; go_simp; try with_reducible rfl)
      try simp only [Act.put, List.setIfInBounds_toArray, List.set_cons_zero, List.set_cons_succ]
      refine Rk.wpAnyK_ready (rs := [13]) (by kernel_rfl) (by simp) ?_
      refine Rk.AllReadyK.last rfl (fun KK hKK => ?_)
      go_simp
      refine hKK.out _ _ ?_
      clear hKK d0 d1 d2 d3 g0 g1 g2 g3 l3
      refine Rk.wpAnyK_done (by kernel_rfl) ?_ _
      obtain ⟨w9, hw9⟩ : ∃ w9, w9 = w8.setCell ⟨b3, 3, none⟩ (.slice a8 n8 cp8) := ⟨_, rfl⟩
      rw [← hw9] at HM8 ⊢
      clear hw9
      obtain ⟨⟨c0, c1, c2, c3⟩, ⟨f0, f1, f2, f3⟩, ⟨d0, d1, d2, d3⟩, ⟨g0, g1, g2, g3⟩, l2, l3⟩ := HM8.out.cells
      have HDN := Lib.hid (fun x0 x1 x2 x3 => HM8.out.done x0 x1 x2 x3)
      go_wp2_with fail
      exact bodyPost_ret (v := .agg #[.bool up, .int .i64 ep, .int .i64 sq, .slice a8 n8 cp8]) (by simp [results, Try.results49, go_sem, c0, c1, c2, c3, d0, d1, d2, d3, l2, l3]) rfl ⟨⟨up, ep, sq, a8, n8, cp8, _, rfl, (HDN.out _ _ _ _).1, by have := HN8.out; have := HNL.out; omega, by have := HN8.out; simpa using this, by omega, by omega⟩, (HDN.out _ _ _ _).2⟩
    · refine Rk.AllReadyK.cons rfl (fun KK hKK => ?_) Rk.AllReadyK.nil
      go_simp
      have HNX := Lib.hid (show Nums (w4.drew.alloc (.cells #[.int .i64 (-1), .int .i64 3, .int .i64 2000000001] 3)) w4.heap.size 3 py from nums_u w4.drew)
      have HBX := Lib.hid (show Below w4.drew.heap.size w4.drew (w4.drew.alloc (.cells #[.int .i64 (-1), .int .i64 3, .int .i64 2000000001] 3)) from bOne _ _)
      have HMX := Lib.hid (HMd.out.below HBX.out)
      have HNE := Lib.hid (show w4.heap.size ≠ cb by have := HM4.out.dr.cur.lt; omega)
      have HLX := Lib.hid (show w4.heap.size < (w4.drew.alloc (.cells #[.int .i64 (-1), .int .i64 3, .int .i64 2000000001] 3)).heap.size by simp)
      refine hKK.out _ _ ⟨HMX.out.x.c0, HMX.out.x.c1, HMX.out.x.c2, HMX.out.x.c3⟩ (fun hHeld => ?_)
      clear hKK
      try simp only [Act.put, List.setIfInBounds_toArray, List.set_cons_zero, List.set_cons_succ]
      refine Rk.wpAnyK_ready (rs := [5]) (by kernel_rfl) (by simp) ?_
      refine Rk.AllReadyK.cons rfl (fun KK hKK => ?_) Rk.AllReadyK.nil
      go_simp
      refine (below_draw _ cb B a0 len0 cap0 HMX.out.dr 5 (by omega) (by omega)).mono ?_
      rintro e w5 ⟨⟨x, rfl, hx0, hx1⟩, hw5⟩
      have HM5 := Lib.hid (HMX.out.went hw5)
      have HNY := Lib.hid (nums_went HNX.out hw5 HNE.out)
      have HG5 := Lib.hid hw5.grown.size
      clear hw5
      dsimp only
      refine hKK.out _ _ ⟨HM5.out.x.c0, HM5.out.x.c1, HM5.out.x.c2, HM5.out.x.c3⟩ (fun hHeld => ?_)
      clear hKK
      try simp only [Act.put, List.setIfInBounds_toArray, List.set_cons_zero, List.set_cons_succ]
      refine Rk.wpAnyK_ready (rs := [8]) (by kernel_rfl) (by simp) ?_
      refine Rk.AllReadyK.cons rfl (fun KK hKK => ?_) Rk.AllReadyK.nil
      go_simp
      refine (pickInt_draw _ cb B a0 len0 cap0 HM5.out.dr w4.heap.size 3 py HNY.out HNE.out (Nat.lt_of_lt_of_le HLX.out HG5.out) (by omega) (by omega)).mono ?_
      rintro e w6 ⟨⟨y, rfl, hy⟩, hw6⟩
      have HM6 := Lib.hid (HM5.out.went hw6)
      clear hy hw6
      dsimp only
      refine hKK.out _ _ ⟨HM6.out.x.c0, HM6.out.x.c1, HM6.out.x.c2, HM6.out.x.c3⟩ (fun hHeld => ?_)
      clear hKK
      try simp only [Act.put, List.setIfInBounds_toArray, List.set_cons_zero, List.set_cons_succ]
      refine Rk.wpAnyK_take (i := 9) (oi := { dst := some _, op := _, type := _, pos := _, after := _, guard := _ }) (v := ?_) rfl (by kernel_rfl) (by kernel_rfl) (by kernel_rfl) (by kernel_rfl) (by kernel_rfl) (fun _ _ _ h => h) ?_ (by assumption) ?_
      rotate_left 1
      focus (refine Or.inl ⟨by rfl, ?_⟩; intro wq hSw; go_simp; try with_reducible rfl)
      try simp only [Act.put, List.setIfInBounds_toArray, List.set_cons_zero, List.set_cons_succ]
      refine Rk.wpAnyK_ready (rs := [10]) (by kernel_rfl) (by simp) ?_
      refine Rk.AllReadyK.cons rfl (fun KK hKK => ?_) Rk.AllReadyK.nil
      go_simp
      have HB7 := Lib.hid (bOne w6 (.cells #[.int .i64 sq, .int .i64 x, .int .i64 y] 40))
      have HM7 := Lib.hid (HM6.out.below HB7.out)
      have HT7 := Lib.hid (yis_one w6 sq x y 40)
      refine hKK.out _ _ ⟨HM7.out.x.c0, HM7.out.x.c1, HM7.out.x.c2, HM7.out.x.c3⟩ (fun hHeld => ?_)
      clear hKK
      try simp only [Act.put, List.setIfInBounds_toArray, List.set_cons_zero, List.set_cons_succ]
      refine Rk.wpAnyK_ready (rs := [11]) (by kernel_rfl) (by simp) ?_
      refine Rk.AllReadyK.cons rfl (fun KK hKK => ?_) Rk.AllReadyK.nil
      refine step_append_run rfl (.tmp 29) (.tmp 38) 24 rfl (.slice a n cap) _ (by simp [Act.eval, Act.put]) (by simp [Act.eval, Act.put]) (app_yis (cap := 1) Try.underlying24 HM7.out.own HT7.out (fun e => by cases e) (by have := HNL.out; omega) HM7.out.g.size) ?_
      intro v8 w8 happ
      obtain ⟨a8, n8, cp8, rfl⟩ := happ.form
      have hn8 : n8 = l.length + 1 := by
        obtain ⟨a', c', e⟩ := happ.1.shape
        simp only [Value.slice.injEq] at e
        rw [e.2.1]
        simp
      have HN8 := Lib.hid hn8
      have hat := HM7.out.app_at (Below.refl _ _) happ
      have HM8 := Lib.hid (HM7.out.app (Below.refl _ _) happ)
      clear happ hn8 c0 c1 c2 c3 f0 f1 f2 f3 d0 d1 d2 d3 g0 g1 g2 g3 l2 l3
      obtain ⟨hx8, hf8, hl8, _⟩ := hat
      obtain ⟨d0, d1, d2, d3, l3⟩ := hx8.cells
      have g0 := hf8 0
      have g1 := hf8 1
      have g2 := hf8 2
      have g3 := hf8 3
      refine hKK.out _ _ ⟨d0, d1, d2, d3⟩ (fun hHeld => ?_)
      clear hKK hx8 hf8
      try simp only [Act.put, List.setIfInBounds_toArray, List.set_cons_zero, List.set_cons_succ]
      refine Rk.wpAnyK_take (i := 12) (oi := { dst := some _, op := _, type := _, pos := _, after := _, guard := _ }) (v := ?_) rfl (by kernel_rfl) (by kernel_rfl) (by kernel_rfl) (by kernel_rfl) (by kernel_rfl) (fun _ _ _ h => h) ?_ (by assumption) ?_
      rotate_left 1
      focus (refine Or.inl ⟨by rfl, ?_⟩; intro wq hSw; go_simp; try with_reducible rfl)
      try simp only [Act.put, List.setIfInBounds_toArray, List.set_cons_zero, List.set_cons_succ]
      refine Rk.wpAnyK_ready (rs := [13]) (by kernel_rfl) (by simp) ?_
      refine Rk.AllReadyK.last rfl (fun KK hKK => ?_)
      go_simp
      refine hKK.out _ _ ?_
      clear hKK d0 d1 d2 d3 g0 g1 g2 g3 l3
      refine Rk.wpAnyK_done (by kernel_rfl) ?_ _
      obtain ⟨w9, hw9⟩ : ∃ w9, w9 = w8.setCell ⟨b3, 3, none⟩ (.slice a8 n8 cp8) := ⟨_, rfl⟩
      rw [← hw9] at HM8 ⊢
      clear hw9
      obtain ⟨⟨c0, c1, c2, c3⟩, ⟨f0, f1, f2, f3⟩, ⟨d0, d1, d2, d3⟩, ⟨g0, g1, g2, g3⟩, l2, l3⟩ := HM8.out.cells
      have HDN := Lib.hid (fun x0 x1 x2 x3 => HM8.out.done x0 x1 x2 x3)
      go_wp2_with fail
      exact bodyPost_ret (v := .agg #[.bool up, .int .i64 ep, .int .i64 sq, .slice a8 n8 cp8]) (by simp [results, Try.results49, go_sem, c0, c1, c2, c3, d0, d1, d2, d3, l2, l3]) rfl ⟨⟨up, ep, sq, a8, n8, cp8, _, rfl, (HDN.out _ _ _ _).1, by have := HN8.out; have := HNL.out; omega, by have := HN8.out; simpa using this, by omega, by omega⟩, (HDN.out _ _ _ _).2⟩
  have hb0 : (k == 0) = false := by simpa using h0
  have hb1 : (k == 1) = false := by simpa using h1
  have hb2 : (k == 2) = false := by simpa using h2
  have hb3 : (k == 3) = false := by simpa using h3
  clear h0 h1 h2 h3
  have HDN := Lib.hid (fun x0 x1 x2 x3 => HM4.out.done x0 x1 x2 x3)
  go_wp2_with fail
  exact bodyPost_ret (v := .agg #[.bool up, .int .i64 ep, .int .i64 sq, .slice a n cap]) (by simp [results, Try.results49, go_sem, c0, c1, c2, c3, d0, d1, d2, d3, l2, l3]) rfl ⟨⟨up, ep, sq, a, n, cap, l, rfl, (HDN.out _ _ _ _).1, by omega, HNL.out, by omega, by omega⟩, (HDN.out _ _ _ _).2⟩
end Go.Proofs.Ytjfhdelphfgojaa.Lnk
