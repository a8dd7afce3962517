/-
  The walk of the specification's l05Make.
-/
import Derived.Test.YtjfhdelphfgojaaLmA
import Derived.Test.YtjfhdelphfgojaaLxA
import Derived.Test.YtjfhdelphfgojaaRgk
import Derived.Deep.DeepCutAuto
namespace Go.Proofs.Ytjfhdelphfgojaa.Lnk
open Go.RowKit Go.Proofs.Ytjfhdelphfgojaa.Kit Go.Proofs.Ytjfhdelphfgojaa.Draw
set_option linter.unusedVariables false
set_option linter.unusedSimpArgs false

theorem once_draw (w : World) (cb B : Nat) (a : Option Addr) (len cap : Nat) (hd : Dr B w cb 74 a len cap) (n : Int) (h1 : 1 ≤ n) (h2 : n ≤ 9223372036854775807) :
    Calls Try.prog 60 #[.pointer (some ⟨cb, 0, none⟩), .int .i64 n] w fun e w' => (∃ b : Bool, e = .returned (.bool b)) ∧ Went B w w' cb 74 a len cap := by
  go_enter Try.func60, Try.ntmps60
  go_wp2_with fail
  refine (below_draw _ cb B a len cap hd _ h1 h2).mono ?_
  rintro e w1 ⟨⟨x, rfl, hx0, hx1⟩, hw⟩
  go_wp2_with fail
  go_ret
  exact ⟨⟨_, rfl⟩, hw⟩

theorem lauL_le {up : Bool} {ep sq : Int} {l : List Y} {id un : Int} (h : l.length ≤ 8) : (lauL up ep sq l id un).length ≤ 8 := by
  unfold lauL
  cases hb : lauB up ep sq l id un with
  | false => simpa using h
  | true =>
    unfold lauB at hb
    simp only [Bool.and_eq_true] at hb
    have := (lokB_iff.1 hb.2).len
    simpa using this
theorem ansL_le {up : Bool} {ep sq : Int} {l : List Y} {e seq : Int} (h : l.length ≤ 8) : (ansL up ep sq l e seq).length ≤ 8 := Nat.le_trans (ansL_len _ _ _ _ _ _) h

set_option maxRecDepth 100000 in
set_option maxHeartbeats 2000000 in
theorem lnkMake_draw (w : World) (cb B : Nat) (a0 : Option Addr) (len0 cap0 : Nat) (hd : Dr B w cb 74 a0 len0 cap0) :
    Calls Try.prog 69 #[.pointer (some ⟨cb, 0, none⟩)] w fun e w' => LnD 8 B w w' cb a0 len0 cap0 e := by
  have hcb := hd.cur.lt
  have HD := Lib.hid hd
  clear hd
  go_enter Try.func69, Try.ntmps69
  go_wp2_with fail
  have HW1 := Lib.hid (show Went B w (w.alloc (.cells #[.bool false, .int .i64 0, .int .i64 0, .slice none 0 0] 26)) cb 74 a0 len0 cap0 from went_of_below HD.out (bOne _ _))
  have HZ1 := Lib.hid (B4.new w false 0 0 (.slice none 0 0) 26)
  have HZF := Lib.hid (Fr.new w #[.bool false, .int .i64 0, .int .i64 0, .slice none 0 0] 26)
  refine (below_draw _ cb B a0 len0 cap0 HW1.out.dr 3 (by omega) (by omega)).mono ?_
  rintro e w2 ⟨⟨ep, rfl, he0, he1⟩, hw2⟩
  have HW2 := Lib.hid (HW1.out.trans hw2)
  have hne : some cb ≠ some w.heap.size := by intro e; injection e with e; omega
  have hm := Ms.new (w := w) hw2.dr HW2.out.grown hcb (b2 := w.heap.size) (HZ1.out.grown hw2.grown hne) (HZF.out.grown HZ1.out.lt hw2.grown hne) (Nat.le_refl _) false ep 0 (YOwn.nil w.heap.size w2 _) (fun j hj => by simp [Value.ownBlock] at hj)
  have HM := Lib.hid hm
  clear hw2 hm HW1 HZ1 HZF HW2 hne
  obtain ⟨⟨c0, c1, c2, c3⟩, ⟨f0, f1, f2, f3⟩, ⟨d0, d1, d2, d3⟩, ⟨g0, g1, g2, g3⟩, l2, l3⟩ := HM.out.cells
  go_wp2_with fail
  obtain ⟨w3, hw3⟩ : ∃ w3, w3 = w2.alloc (.cells #[.bool false, .int .i64 ep, .int .i64 0, .slice none 0 0] 26) := ⟨_, rfl⟩
  rw [← hw3] at HM c0 c1 c2 c3 f0 f1 f2 f3 d0 d1 d2 d3 g0 g1 g2 g3 l2 l3 ⊢
  clear hw3
  obtain ⟨b3, hb3⟩ : ∃ b3, b3 = w2.heap.size := ⟨_, rfl⟩
  rw [← hb3] at HM d0 d1 d2 d3 g0 g1 g2 g3 l3 ⊢
  clear hb3
  obtain ⟨b2, hb2⟩ : ∃ b2, b2 = w.heap.size := ⟨_, rfl⟩
  rw [← hb2] at HM c0 c1 c2 c3 f0 f1 f2 f3 l2 ⊢
  have HB2 := Lib.hid hb2
  clear hb2
  refine (below_draw _ cb B a0 len0 cap0 HM.out.dr 4 (by omega) (by omega)).mono ?_
  rintro e w4 ⟨⟨k4, rfl, hk0, hk1⟩, hw4⟩
  have HM4 := Lib.hid (HM.out.went hw4)
  clear hw4 c0 c1 c2 c3 f0 f1 f2 f3 d0 d1 d2 d3 g0 g1 g2 g3 l2 l3 HM
  obtain ⟨⟨c0, c1, c2, c3⟩, ⟨f0, f1, f2, f3⟩, ⟨d0, d1, d2, d3⟩, ⟨g0, g1, g2, g3⟩, l2, l3⟩ := HM4.out.cells
  by_cases hz : k4 = 0
  · have hb1 : (k4 == 0) = true := by simp [hz]
    have HDN := Lib.hid (fun x0 x1 x2 x3 => HM4.out.done x0 x1 x2 x3)
    clear hz
    go_wp2_with fail
    exact bodyPost_ret (v := .agg #[.bool false, .int .i64 ep, .int .i64 0, .slice none 0 0]) (by simp [results, Try.results69, go_sem, c0, c1, c2, c3, d0, d1, d2, d3, l2, l3]) rfl ⟨⟨false, ep, 0, none, 0, 0, [], rfl, (HDN.out _ _ _ _).1, by omega, rfl, by omega, by omega⟩, (HDN.out _ _ _ _).2⟩
  · have hb1 : (k4 == 0) = false := by simp [hz]
    clear hz
    have HM5 := Lib.hid (HM4.out.set0 true)
    go_wp2_with fail
    refine (below_draw _ cb B a0 len0 cap0 HM5.out.dr 7 (by omega) (by omega)).mono ?_
    rintro e w5 ⟨⟨k, rfl, hk2, hk3⟩, hw5⟩
    have HM6 := Lib.hid (HM5.out.went hw5)
    clear hw5 c0 c1 c2 c3 f0 f1 f2 f3 d0 d1 d2 d3 g0 g1 g2 g3 l2 l3 HM4 HM5 hb1 hk0 hk1
    go_wp2_with fail
    go_loopw [5] (fun i wr => ∃ (j : Nat) (sq : Int) (a : Option Addr) (n cap : Nat) (l : List Y), (j : Int) ≤ k ∧ i = .int .i64 j ∧ Hid (l.length ≤ 8) ∧ Hid (n = l.length) ∧ Hid (Ms B w wr cb a0 len0 cap0 b2 b3 true ep sq a n cap l)) (fun i _ => (k - intOf i).toNat)
    case atStart => exact ⟨0, 0, none, 0, 0, [], by omega, rfl, Lib.hid (by simp), Lib.hid rfl, HM6⟩
    case round =>
      obtain ⟨j, sq, a, n, cap, l, hj, rfl, HL, HNL, HM⟩ := hrel
      obtain ⟨⟨c0, c1, c2, c3⟩, ⟨f0, f1, f2, f3⟩, ⟨d0, d1, d2, d3⟩, ⟨g0, g1, g2, g3⟩, l2, l3⟩ := HM.out.cells
      by_cases hlt : (j : Int) < k
      · have hdr := Lib.hid (HM.out.below (below_drew' (Below.refl _ _)))
        go_wp2_with fail
        go_cut [5] (fun s5 wx => s5 = .int .i64 j ∧ ∃ (sq' : Int) (a' : Option Addr) (cap' : Nat) (l' : List Y), Hid (l'.length ≤ 8) ∧ Hid (Ms B w wx cb a0 len0 cap0 b2 b3 true ep sq' a' l'.length cap' l'))
        case first =>
          refine Rk.wp_region_K (k := 11) (S := fun w' => w'.cell? ⟨b3, 0, none⟩ = some (.bool true) ∧ w'.cell? ⟨b3, 1, none⟩ = some (.int .i64 ep) ∧ w'.cell? ⟨b3, 2, none⟩ = some (.int .i64 sq) ∧ w'.cell? ⟨b3, 3, none⟩ = some (.slice a n cap)) (by kernel_rfl) ⟨d0, d1, d2, d3⟩ (fun hHeld => ?_)
          refine Rk.wpAnyK_take (i := 0) (oi := { dst := some _, op := _, type := _, pos := _, after := _, guard := _ }) (v := ?_) rfl (by kernel_rfl) (by kernel_rfl) (by kernel_rfl) (by kernel_rfl) (by kernel_rfl) (fun _ _ _ h => h) ?_ (by assumption) ?_
          rotate_left 1
          focus (refine Or.inl ⟨by rfl, ?_⟩; intro wq hSw; obtain ⟨s0, s1, s2, s3⟩ := hSw; go_simp; try with_reducible rfl)
          try simp only [Act.put, List.setIfInBounds_toArray, List.set_cons_zero, List.set_cons_succ]
          refine Rk.wpAnyK_take (i := 1) (oi := { dst := some _, op := _, type := _, pos := _, after := _, guard := _ }) (v := ?_) rfl (by kernel_rfl) (by kernel_rfl) (by kernel_rfl) (by kernel_rfl) (by kernel_rfl) (fun _ _ _ h => h) ?_ (by assumption) ?_
          rotate_left 1
          focus (refine Or.inl ⟨by rfl, ?_⟩; intro wq hSw; obtain ⟨s0, s1, s2, s3⟩ := hSw; go_simp; try with_reducible rfl)
          try simp only [Act.put, List.setIfInBounds_toArray, List.set_cons_zero, List.set_cons_succ]
          refine Rk.wpAnyK_take (i := 4) (oi := { dst := some _, op := _, type := _, pos := _, after := _, guard := _ }) (v := ?_) rfl (by kernel_rfl) (by kernel_rfl) (by kernel_rfl) (by kernel_rfl) (by kernel_rfl) (fun _ _ _ h => h) ?_ (by assumption) ?_
          rotate_left 1
          focus (refine Or.inl ⟨by rfl, ?_⟩; intro wq hSw; obtain ⟨s0, s1, s2, s3⟩ := hSw; go_simp; try with_reducible rfl)
          try simp only [Act.put, List.setIfInBounds_toArray, List.set_cons_zero, List.set_cons_succ]
          refine Rk.wpAnyK_ready (rs := [2]) (by kernel_rfl) (by simp) ?_
          refine Rk.AllReadyK.cons rfl (fun KA hKA => ?_) Rk.AllReadyK.nil
          go_simp
          refine (below_draw _ cb B a0 len0 cap0 hdr.out.dr 9 (by omega) (by omega)).mono ?_
          rintro e w6 ⟨⟨y, rfl, hy0, hy1⟩, hw6⟩
          have HM7 := Lib.hid (hdr.out.went hw6)
          dsimp only
          refine hKA.out _ _ ⟨HM7.out.x.c0, HM7.out.x.c1, HM7.out.x.c2, HM7.out.x.c3⟩ (fun hHeld => ?_)
          clear hKA
          try simp only [Act.put, List.setIfInBounds_toArray, List.set_cons_zero, List.set_cons_succ]
          refine Rk.wpAnyK_take (i := 3) (oi := { dst := some _, op := _, type := _, pos := _, after := _, guard := _ }) (v := ?_) rfl (by kernel_rfl) (by kernel_rfl) (by kernel_rfl) (by kernel_rfl) (by kernel_rfl) (fun _ _ _ h => h) ?_ (by assumption) ?_
          rotate_left 1
          focus (refine Or.inl ⟨by rfl, ?_⟩; intro wq hSw; obtain ⟨s0, s1, s2, s3⟩ := hSw; go_simp; try with_reducible rfl)
          try simp only [Act.put, List.setIfInBounds_toArray, List.set_cons_zero, List.set_cons_succ]
          refine Rk.wpAnyK_ready (rs := [5]) (by kernel_rfl) (by simp) ?_
          refine Rk.AllReadyK.cons rfl (fun KK hKK => ?_) Rk.AllReadyK.nil
          go_simp
          refine (below_draw _ cb B a0 len0 cap0 HM7.out.dr 9 (by omega) (by omega)).mono ?_
          rintro e w7 ⟨⟨z, rfl, hz0, hz1⟩, hw7⟩
          have HM8 := Lib.hid (HM7.out.went hw7)
          dsimp only
          refine hKK.out _ _ ⟨HM8.out.x.c0, HM8.out.x.c1, HM8.out.x.c2, HM8.out.x.c3⟩ (fun hHeld => ?_)
          clear hKK
          try simp only [Act.put, List.setIfInBounds_toArray, List.set_cons_zero, List.set_cons_succ]
          refine Rk.wpAnyK_take (i := 6) (oi := { dst := some _, op := _, type := _, pos := _, after := _, guard := _ }) (v := ?_) rfl (by kernel_rfl) (by kernel_rfl) (by kernel_rfl) (by kernel_rfl) (by kernel_rfl) (fun _ _ _ h => h) ?_ (by assumption) ?_
          rotate_left 1
          focus (refine Or.inl ⟨by rfl, ?_⟩; intro wq hSw; obtain ⟨s0, s1, s2, s3⟩ := hSw; go_simp; try with_reducible rfl)
          try simp only [Act.put, List.setIfInBounds_toArray, List.set_cons_zero, List.set_cons_succ]
          refine Rk.wpAnyK_ready (rs := [7]) (by kernel_rfl) (by simp) ?_
          refine Rk.AllReadyK.cons rfl (fun KK hKK => ?_) Rk.AllReadyK.nil
          go_simp
          obtain ⟨X, hX⟩ : ∃ X, X = IntKind.i64.wrap (1 + y) := ⟨_, rfl⟩
          obtain ⟨Z, hZ⟩ : ∃ Z, Z = IntKind.i64.wrap (5 + z) := ⟨_, rfl⟩
          rw [← hX, ← hZ]
          clear hX hZ
          refine (specLaunch_any _ a n cap true ep sq l X Z HM8.out.is (by have := HL.out; have := HNL.out; omega) HM8.out.own.nilcap).mono ?_
          rintro e w8 ⟨⟨a8, cap8, rfl, ho8⟩, hb8⟩
          have HM9 := Lib.hid (HM8.out.below hb8)
          have HM10 := Lib.hid (HM8.out.put hb8 ho8 true ep (lauS true ep sq l X Z))
          have HL10 := Lib.hid (lauL_le (up := true) (ep := ep) (sq := sq) (id := X) (un := Z) HL.out)
          dsimp only
          refine hKK.out _ _ ⟨HM9.out.x.c0, HM9.out.x.c1, HM9.out.x.c2, HM9.out.x.c3⟩ (fun hHeld => ?_)
          clear hKK c0 c1 c2 c3 f0 f1 f2 f3 d0 d1 d2 d3 g0 g1 g2 g3 l2 l3
          obtain ⟨⟨c0, c1, c2, c3⟩, ⟨f0, f1, f2, f3⟩, ⟨d0, d1, d2, d3⟩, ⟨g0, g1, g2, g3⟩, l2, l3⟩ := HM9.out.cells
          try simp only [Act.put, List.setIfInBounds_toArray, List.set_cons_zero, List.set_cons_succ]
          refine Rk.wpAnyK_take (i := 8) (oi := { dst := some _, op := _, type := _, pos := _, after := _, guard := _ }) (v := ?_) rfl (by kernel_rfl) (by kernel_rfl) (by kernel_rfl) (by kernel_rfl) (by kernel_rfl) (fun _ _ _ h => h) ?_ (by assumption) ?_
          rotate_left 1
          focus (refine Or.inl ⟨by rfl, ?_⟩; intro wq hSw; obtain ⟨s0, s1, s2, s3⟩ := hSw; go_simp; try with_reducible rfl)
          try simp only [Act.put, List.setIfInBounds_toArray, List.set_cons_zero, List.set_cons_succ]
          refine Rk.wpAnyK_take (i := 9) (oi := { dst := some _, op := _, type := _, pos := _, after := _, guard := _ }) (v := ?_) rfl (by kernel_rfl) (by kernel_rfl) (by kernel_rfl) (by kernel_rfl) (by kernel_rfl) (fun _ _ _ h => h) ?_ (by assumption) ?_
          rotate_left 1
          focus (refine Or.inl ⟨by rfl, ?_⟩; intro wq hSw; obtain ⟨s0, s1, s2, s3⟩ := hSw; go_simp; try with_reducible rfl)
          try simp only [Act.put, List.setIfInBounds_toArray, List.set_cons_zero, List.set_cons_succ]
          refine Rk.wpAnyK_free (i := 10) (oi := { dst := some _, op := _, type := _, pos := _, after := _, guard := _ }) (v := ?_) rfl (by kernel_rfl) (by kernel_rfl) (by kernel_rfl) (by kernel_rfl) (by kernel_rfl) (fun _ _ _ h => h) ?_ (fun _ => by assumption) ?_
          rotate_left 1
          focus (refine Or.inl ⟨by rfl, ?_⟩; intro wq hSw; obtain ⟨s0, s1, s2, s3⟩ := hSw; go_simp; try with_reducible rfl)
          try simp only [Act.put, List.setIfInBounds_toArray, List.set_cons_zero, List.set_cons_succ]
          refine Rk.wpAnyK_ready (rs := [11]) (by kernel_rfl) (by simp) ?_
          refine Rk.AllReadyK.last rfl (fun KK hKK => ?_)
          go_simp
          refine hKK.out _ _ ?_
          clear hKK
          refine Rk.wpAnyK_done (by kernel_rfl) ?_ _
          go_wp2_with fail
          go_meet
          exact ⟨rfl, _, a8, cap8, _, HL10, HM10⟩
        case rest =>
          obtain ⟨rfl, sq1, a1, cap1, l1, HL1, HM1⟩ := hcut
          clear hdr c0 c1 c2 c3 f0 f1 f2 f3 d0 d1 d2 d3 g0 g1 g2 g3 l2 l3 HM HNL HL
          go_wp2_with fail
          refine (once_draw _ cb B a0 len0 cap0 HM1.out.dr 4 (by omega) (by omega)).mono ?_
          rintro e w9 ⟨⟨q, rfl⟩, hw9⟩
          have HM2 := Lib.hid (HM1.out.went hw9)
          clear hw9 HM1
          obtain ⟨⟨c0, c1, c2, c3⟩, ⟨f0, f1, f2, f3⟩, ⟨d0, d1, d2, d3⟩, ⟨g0, g1, g2, g3⟩, l2, l3⟩ := HM2.out.cells
          obtain ⟨n1, hn1⟩ : ∃ n, n = l1.length := ⟨_, rfl⟩
          rw [← hn1] at HM2 d3
          have HN1 := Lib.hid hn1
          clear hn1
          cases q with
          | false =>
            go_wp2_with fail
            go_roundw
            case rel => exact ⟨j + 1, sq1, a1, n1, cap1, l1, by omega, by go_num, HL1, HN1, HM2⟩
            case measure => simp [intOf]; omega
          | true =>
            have hdr := Lib.hid (HM2.out.below (below_drew' (Below.refl _ _)))
            go_wp2_with fail
            refine Rk.wp_region_K (k := 10) (S := fun w' => w'.cell? ⟨b3, 0, none⟩ = some (.bool true) ∧ w'.cell? ⟨b3, 1, none⟩ = some (.int .i64 ep) ∧ w'.cell? ⟨b3, 2, none⟩ = some (.int .i64 sq1) ∧ w'.cell? ⟨b3, 3, none⟩ = some (.slice a1 n1 cap1)) (by kernel_rfl) ⟨d0, d1, d2, d3⟩ (fun hHeld => ?_)
            refine Rk.wpAnyK_take (i := 0) (oi := { dst := some _, op := _, type := _, pos := _, after := _, guard := _ }) (v := ?_) rfl (by kernel_rfl) (by kernel_rfl) (by kernel_rfl) (by kernel_rfl) (by kernel_rfl) (fun _ _ _ h => h) ?_ (by assumption) ?_
            rotate_left 1
            focus (refine Or.inl ⟨by rfl, ?_⟩; intro wq hSw; obtain ⟨s0, s1, s2, s3⟩ := hSw; go_simp; try with_reducible rfl)
            try simp only [Act.put, List.setIfInBounds_toArray, List.set_cons_zero, List.set_cons_succ]
            refine Rk.wpAnyK_take (i := 1) (oi := { dst := some _, op := _, type := _, pos := _, after := _, guard := _ }) (v := ?_) rfl (by kernel_rfl) (by kernel_rfl) (by kernel_rfl) (by kernel_rfl) (by kernel_rfl) (fun _ _ _ h => h) ?_ (by assumption) ?_
            rotate_left 1
            focus (refine Or.inl ⟨by rfl, ?_⟩; intro wq hSw; obtain ⟨s0, s1, s2, s3⟩ := hSw; go_simp; try with_reducible rfl)
            try simp only [Act.put, List.setIfInBounds_toArray, List.set_cons_zero, List.set_cons_succ]
            refine Rk.wpAnyK_take (i := 2) (oi := { dst := some _, op := _, type := _, pos := _, after := _, guard := _ }) (v := ?_) rfl (by kernel_rfl) (by kernel_rfl) (by kernel_rfl) (by kernel_rfl) (by kernel_rfl) (fun _ _ _ h => h) ?_ (by assumption) ?_
            rotate_left 1
            focus (refine Or.inl ⟨by rfl, ?_⟩; intro wq hSw; obtain ⟨s0, s1, s2, s3⟩ := hSw; go_simp; try with_reducible rfl)
            try simp only [Act.put, List.setIfInBounds_toArray, List.set_cons_zero, List.set_cons_succ]
            refine Rk.wpAnyK_take (i := 3) (oi := { dst := some _, op := _, type := _, pos := _, after := _, guard := _ }) (v := ?_) rfl (by kernel_rfl) (by kernel_rfl) (by kernel_rfl) (by kernel_rfl) (by kernel_rfl) (fun _ _ _ h => h) ?_ (by assumption) ?_
            rotate_left 1
            focus (refine Or.inl ⟨by rfl, ?_⟩; intro wq hSw; obtain ⟨s0, s1, s2, s3⟩ := hSw; go_simp; try with_reducible rfl)
            try simp only [Act.put, List.setIfInBounds_toArray, List.set_cons_zero, List.set_cons_succ]
            refine Rk.wpAnyK_ready (rs := [4]) (by kernel_rfl) (by simp) ?_
            refine Rk.AllReadyK.cons rfl (fun KA hKA => ?_) Rk.AllReadyK.nil
            go_simp
            refine (below_draw _ cb B a0 len0 cap0 hdr.out.dr 5 (by omega) (by omega)).mono ?_
            rintro e w6 ⟨⟨y, rfl, hy0, hy1⟩, hw6⟩
            have HM7 := Lib.hid (hdr.out.went hw6)
            dsimp only
            refine hKA.out _ _ ⟨HM7.out.x.c0, HM7.out.x.c1, HM7.out.x.c2, HM7.out.x.c3⟩ (fun hHeld => ?_)
            clear hKA
            try simp only [Act.put, List.setIfInBounds_toArray, List.set_cons_zero, List.set_cons_succ]
            refine Rk.wpAnyK_take (i := 5) (oi := { dst := some _, op := _, type := _, pos := _, after := _, guard := _ }) (v := ?_) rfl (by kernel_rfl) (by kernel_rfl) (by kernel_rfl) (by kernel_rfl) (by kernel_rfl) (fun _ _ _ h => h) ?_ (by assumption) ?_
            rotate_left 1
            focus (refine Or.inl ⟨by rfl, ?_⟩; intro wq hSw; obtain ⟨s0, s1, s2, s3⟩ := hSw; go_simp; try with_reducible rfl)
            try simp only [Act.put, List.setIfInBounds_toArray, List.set_cons_zero, List.set_cons_succ]
            refine Rk.wpAnyK_ready (rs := [6]) (by kernel_rfl) (by simp) ?_
            refine Rk.AllReadyK.cons rfl (fun KK hKK => ?_) Rk.AllReadyK.nil
            go_simp
            obtain ⟨X, hX⟩ : ∃ X, X = IntKind.i64.wrap (1 + y) := ⟨_, rfl⟩
            rw [← hX]
            clear hX
            refine (specAnswer_any _ a1 n1 cap1 true ep sq1 l1 ep X HM7.out.is (by have := HL1.out; have := HN1.out; omega) HM7.out.own.nilcap).mono ?_
            rintro e w8 ⟨⟨a8, cap8, rfl, ho8⟩, hb8⟩
            have HM9 := Lib.hid (HM7.out.below hb8)
            have HM10 := Lib.hid (HM7.out.put hb8 ho8 true ep sq1)
            have HL10 := Lib.hid (ansL_le (up := true) (ep := ep) (sq := sq1) (e := ep) (seq := X) HL1.out)
            dsimp only
            refine hKK.out _ _ ⟨HM9.out.x.c0, HM9.out.x.c1, HM9.out.x.c2, HM9.out.x.c3⟩ (fun hHeld => ?_)
            clear hKK c0 c1 c2 c3 f0 f1 f2 f3 d0 d1 d2 d3 g0 g1 g2 g3 l2 l3
            obtain ⟨⟨c0, c1, c2, c3⟩, ⟨f0, f1, f2, f3⟩, ⟨d0, d1, d2, d3⟩, ⟨g0, g1, g2, g3⟩, l2, l3⟩ := HM9.out.cells
            try simp only [Act.put, List.setIfInBounds_toArray, List.set_cons_zero, List.set_cons_succ]
            refine Rk.wpAnyK_take (i := 7) (oi := { dst := some _, op := _, type := _, pos := _, after := _, guard := _ }) (v := ?_) rfl (by kernel_rfl) (by kernel_rfl) (by kernel_rfl) (by kernel_rfl) (by kernel_rfl) (fun _ _ _ h => h) ?_ (by assumption) ?_
            rotate_left 1
            focus (refine Or.inl ⟨by rfl, ?_⟩; intro wq hSw; obtain ⟨s0, s1, s2, s3⟩ := hSw; go_simp; try with_reducible rfl)
            try simp only [Act.put, List.setIfInBounds_toArray, List.set_cons_zero, List.set_cons_succ]
            refine Rk.wpAnyK_take (i := 8) (oi := { dst := some _, op := _, type := _, pos := _, after := _, guard := _ }) (v := ?_) rfl (by kernel_rfl) (by kernel_rfl) (by kernel_rfl) (by kernel_rfl) (by kernel_rfl) (fun _ _ _ h => h) ?_ (by assumption) ?_
            rotate_left 1
            focus (refine Or.inl ⟨by rfl, ?_⟩; intro wq hSw; obtain ⟨s0, s1, s2, s3⟩ := hSw; go_simp; try with_reducible rfl)
            try simp only [Act.put, List.setIfInBounds_toArray, List.set_cons_zero, List.set_cons_succ]
            refine Rk.wpAnyK_free (i := 9) (oi := { dst := some _, op := _, type := _, pos := _, after := _, guard := _ }) (v := ?_) rfl (by kernel_rfl) (by kernel_rfl) (by kernel_rfl) (by kernel_rfl) (by kernel_rfl) (fun _ _ _ h => h) ?_ (fun _ => by assumption) ?_
            rotate_left 1
            focus (refine Or.inl ⟨by rfl, ?_⟩; intro wq hSw; obtain ⟨s0, s1, s2, s3⟩ := hSw; go_simp; try with_reducible rfl)
            try simp only [Act.put, List.setIfInBounds_toArray, List.set_cons_zero, List.set_cons_succ]
            refine Rk.wpAnyK_ready (rs := [10]) (by kernel_rfl) (by simp) ?_
            refine Rk.AllReadyK.last rfl (fun KK hKK => ?_)
            go_simp
            refine hKK.out _ _ ?_
            clear hKK
            refine Rk.wpAnyK_done (by kernel_rfl) ?_ _
            go_wp2_with fail
            go_roundw
            case rel => exact ⟨j + 1, sq1, a8, _, cap8, _, by omega, by go_num, HL10, Lib.hid rfl, HM10⟩
            case measure => simp [intOf]; omega
      · have hjk : (j : Int) = k := by omega
        have hd : decide ((j : Int) < k) = false := by simp; omega
        have HDN := Lib.hid (fun x0 x1 x2 x3 => HM.out.done x0 x1 x2 x3)
        go_wp2_with fail
        exact bodyPost_ret (v := .agg #[.bool true, .int .i64 ep, .int .i64 sq, .slice a n cap]) (by simp [results, Try.results69, go_sem, c0, c1, c2, c3, d0, d1, d2, d3, l2, l3]) rfl ⟨⟨true, ep, sq, a, n, cap, l, rfl, (HDN.out _ _ _ _).1, by have := HL.out; have := HNL.out; omega, HNL.out, by omega, by omega⟩, (HDN.out _ _ _ _).2⟩
end Go.Proofs.Ytjfhdelphfgojaa.Lnk
