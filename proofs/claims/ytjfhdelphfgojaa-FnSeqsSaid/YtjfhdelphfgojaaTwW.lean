/-
  The walk of the law FnTwoAnswers.
-/
import Derived.Test.YtjfhdelphfgojaaLnB
import Derived.Test.YtjfhdelphfgojaaLkE
import Derived.Test.YtjfhdelphfgojaaLkF
import Derived.Test.YtjfhdelphfgojaaLkG
import Derived.Test.YtjfhdelphfgojaaLkH
import Derived.Test.YtjfhdelphfgojaaLkI
import Derived.Test.YtjfhdelphfgojaaAtA
import Derived.Test.YtjfhdelphfgojaaBig
import Derived.Deep.DeepCutAuto
import Derived.Deep.RegionHeld
import Derived.Deep.RegionHeld3
namespace Go.Proofs.Ytjfhdelphfgojaa.Lnk
open Go.RowKit Go.Proofs.Ytjfhdelphfgojaa.Kit Go.Proofs.Ytjfhdelphfgojaa.Draw
set_option linter.unusedVariables false
set_option linter.unusedSimpArgs false

theorem lok_new (ep : Int) (h0 : 0 ≤ ep) (h1 : ep ≤ 60000) : LOk true ep 0 [] := ⟨h0, h1, by omega, by omega, by simp, fun _ => rfl, List.Pairwise.nil, fun t ht => by cases ht⟩
theorem joi_new (ep : Int) (h0 : 0 ≤ ep) (h1 : ep < 60000) : joiB false ep 0 [] = true := by
  unfold joiB
  rw [lokB_true ⟨h0, by omega, by omega, by omega, by simp, fun h => by simp at h, List.Pairwise.nil, fun t ht => by cases ht⟩]
  simp
  omega
theorem joinE (ep : Int) (h0 : 0 ≤ ep) (h1 : ep < 60000) : joU false ep 0 [] = true ∧ joE false ep 0 [] = ep + 1 ∧ joS false ep 0 [] = 0 ∧ joL false ep 0 [] = [] := by
  unfold joU joE joS joL
  rw [joi_new ep h0 h1]
  exact ⟨rfl, rfl, rfl, rfl⟩
theorem join0 : joU false 0 0 [] = true ∧ joE false 0 0 [] = 1 ∧ joS false 0 0 [] = 0 ∧ joL false 0 0 [] = [] := joinE 0 (by omega) (by omega)
theorem H4.put1 {w : World} {o B : Nat} {up : Bool} {ep sq : Int} {v : Value} {a' : Option Addr} {n' cap' : Nat} {S S' : List Y} (h : H4 w o B up ep sq v S) (ho : YOwn B w 40 (.slice a' n' cap') S') (hne : (Value.slice a' n' cap').ownBlock ≠ some o) (up' : Bool) (ep' sq' : Int) :
    H4 ((((w.setCell ⟨o, 0, none⟩ (.bool up')).setCell ⟨o, 1, none⟩ (.int .i64 ep')).setCell ⟨o, 2, none⟩ (.int .i64 sq')).setCell ⟨o, 3, none⟩ (.slice a' n' cap')) o B up' ep' sq' (.slice a' n' cap') S' := by
  have hn : ∀ j, (Value.slice a' n' cap').ownBlock = some j → j ≠ o := fun j hj e => hne (by rw [hj, e])
  exact ⟨(((h.box.set0 up').set1 ep').set2 sq').set3 _, ((((h.fro.set _ _).set _ _).set _ _).set _ _), ((((ho.setFar _ _ hn).setFar _ _ hn).setFar _ _ hn).setFar _ _ hn), hne, h.lo⟩

set_option maxRecDepth 100000 in
set_option maxHeartbeats 4000000 in
theorem fnTwo_walk (w : World) (a0 : Option Addr) (len0 cap0 : Nat) (zs : List Int) (hrow : IsRow .u8 w a0 len0 cap0 zs) :
    Calls Try.prog 8 #[.slice a0 len0 cap0] w fun e w' => e = .returned (.bool true) ∧ Below w.heap.size w w' := by
  obtain ⟨cf, hcf⟩ : ∃ cf : Nat → Int, CodeIs w.heap.size w a0 len0 cap0 cf := ⟨_, hrow.codeIs⟩
  have hcode := hcf
  have hle := hcode.le
  have HC := Lib.hid hcode
  have HLE := Lib.hid hle
  clear hrow hcode hcf hle
  go_enter Try.func8, Try.ntmps8
  by_cases hbig : (1048576 : Int) < (len0 : Int)
  · go_wp2_with fail
    refine (big_yes _ a0 len0 cap0 HLE.out hbig).mono ?_
    rintro e w' ⟨rfl, rfl⟩
    go_wp2_with fail
    go_ret
    exact ⟨rfl, Below.refl _ _⟩
  go_wp2_with fail
  refine (big_no _ a0 len0 cap0 HLE.out (by omega)).mono ?_
  rintro e w' ⟨rfl, rfl⟩
  clear hbig
  go_wp2_with fail
  refine (join_any w none 0 0 false 0 0 [] (YIs.nil _ _ _) (by omega)).mono ?_
  rintro e w1 ⟨⟨a1, cap1, ai1, ci1, rfl, ho, hi⟩, hb⟩
  rw [show joU false 0 0 [] = true from join0.1]
  rw [show joE false 0 0 [] = 1 from join0.2.1]
  rw [show joS false 0 0 [] = 0 from join0.2.2.1]
  rw [show joL false 0 0 [] = [] from join0.2.2.2] at ho ⊢
  rw [List.length_nil] at ho ⊢
  obtain ⟨mi, hmi⟩ : ∃ m, m = (joI false 0 0 []).length := ⟨_, rfl⟩
  rw [← hmi] at hi ⊢
  have HK := Lib.hid (H4.new ho hb.size true 1 0)
  have HL := Lib.hid (low_alloc (Below.refl w.heap.size w |>.trans hb) (.cells #[.bool true, .int .i64 1, .int .i64 0, .slice a1 0 cap1] 26))
  obtain ⟨z0, hz0⟩ : ∃ z, z = atF cf len0 0 := ⟨_, rfl⟩
  have hzb := atF_bd HC.out 0
  rw [← hz0] at hzb
  have HZ0 := Lib.hid hz0
  clear ho hi hb hmi hz0
  obtain ⟨⟨k0, k1, k2, k3⟩, k4, k5, k6⟩ := HK.out.cells
  go_wp2_with fail
  refine (at_int _ w.heap.size a0 len0 cap0 cf (HC.out.below HL.out) 0 (by omega) (by omega) z0 HZ0.out.symm).mono ?_
  rintro e w2 ⟨⟨rfl, _, _⟩, rfl⟩
  have hmz : z0.tmod 8 = z0 % 8 := Int.tmod_eq_emod_of_nonneg hzb.1
  have hwm : IntKind.i64.wrap (z0 % 8) = z0 % 8 := IntWalk.i64_in _ (by omega)
  obtain ⟨N, hN⟩ : ∃ N, N = 1 + z0 % 8 := ⟨_, rfl⟩
  have hwn : IntKind.i64.wrap (1 + z0 % 8) = N := by rw [hN]; exact IntWalk.i64_in _ (by omega)
  have hN0 : 1 ≤ N ∧ N ≤ 8 := by omega
  clear hN
  go_wp2_with fail
  clear hmz hwm hwn k0 k1 k2 k3 k4 k5 k6
  obtain ⟨b3, hb3⟩ : ∃ b, b = w1.heap.size := ⟨_, rfl⟩
  rw [← hb3] at HK
  rw [← hb3]
  clear hb3
  go_loopw [6] (fun i wr => ∃ (j : Nat) (a : Option Addr) (cap : Nat) (l : List Y), (j : Int) ≤ N ∧ i = .int .i64 ((j : Int) + 1) ∧ Hid (l.length = j) ∧ Hid (LOk true 1 j l) ∧ Hid (∀ t ∈ l, t.2.1 ≤ 100 + j) ∧ Hid (H4 wr b3 w.heap.size true 1 j (.slice a j cap) l) ∧ Hid (Below w.heap.size w wr)) (fun i _ => (N + 1 - intOf i).toNat)
  case atStart => exact ⟨0, a1, cap1, [], by omega, by go_num, Lib.hid rfl, Lib.hid (lok_new 1 (by omega) (by omega)), Lib.hid (fun t ht => by cases ht), HK, HL⟩
  case round =>
    obtain ⟨j, a, cap, l, hj, rfl, HJL, HOK, HID, HK, HL⟩ := hrel
    obtain ⟨⟨k0, k1, k2, k3⟩, k4, k5, k6⟩ := HK.out.cells
    have kf := HK.out.fro
    have k7 := kf 0
    have k8 := kf 1
    by_cases hlt : (j : Int) + 1 ≤ N
    · have hj7 : j ≤ 7 := by omega
      obtain ⟨i, hi⟩ : ∃ i : Int, i = (j : Int) + 1 := ⟨_, rfl⟩
      rw [← hi] at hlt ⊢
      have hwi : IntKind.i64.wrap (100 + i) = 100 + i := IntWalk.i64_in _ (by omega)
      have hwi2 : IntKind.i64.wrap (i + 1) = i + 1 := IntWalk.i64_in _ (by omega)
      have HI := Lib.hid hi
      have HB := Lib.hid (show lauB true 1 j l (100 + i) 50 = true from lau_can HOK.out rfl (by omega) (by have := HJL.out; omega) (by omega) (by omega) (fun t ht e => by have := HID.out t ht; omega))
      clear hi kf
      go_wp2_with fail
      refine (launch_any _ a j cap true 1 j l (100 + i) 50 HK.out.own.isN (by omega) HK.out.own.lecap).mono ?_
      rintro e w3 ⟨⟨a3, cap3, rfl, ho⟩, hb⟩
      rw [show lauS true 1 j l (100 + i) 50 = ((j + 1 : Nat) : Int) by unfold lauS; rw [HB.out]; simp]
      rw [show lauL true 1 j l (100 + i) 50 = l ++ [((j : Int) + 1, 100 + i, 50)] by unfold lauL; rw [HB.out]; rfl] at ho ⊢
      have hlen : (l ++ [((j : Int) + 1, 100 + i, 50)]).length = j + 1 := by have := HJL.out; simp; omega
      rw [hlen] at ho ⊢
      have HKb := Lib.hid (HK.out.below hb)
      have HKP := Lib.hid (HK.out.put (up' := true) (ep' := 1) (sq' := ((j + 1 : Nat) : Int)) hb ho)
      have HLP := Lib.hid (low_put4 (low_after HL.out hb) HK.out.lo (.bool true) (.int .i64 1) (.int .i64 ((j + 1 : Nat) : Int)) (.slice a3 (j + 1) cap3))
      have HLE := Lib.hid hlen
      clear ho hb hlen k0 k1 k2 k3 k4 k5 k6 k7 k8
      obtain ⟨⟨k0, k1, k2, k3⟩, k4, k5, k6⟩ := HKb.out.cells
      have kf := HKb.out.fro
      have k7 := kf 0
      have k8 := kf 1
      clear kf
      obtain ⟨J, hJ⟩ : ∃ J : Nat, J = j + 1 := ⟨_, rfl⟩
      rw [← hJ] at HKP HLP HLE ⊢
      have HJ := Lib.hid hJ
      clear hJ
      go_wp2_with fail
      go_roundw
      case rel =>
        refine ⟨J, a3, cap3, _, by have := HJ.out; have := HI.out; omega, ?_, HLE, Lib.hid ?_, Lib.hid ?_, HKP, HLP⟩
        · have h1 := HI.out; have h2 := HJ.out; rw [show i + 1 = (J : Int) + 1 by omega]
        · have := (lau_yes HB.out).2; have h2 := HJ.out; rw [show (J : Int) = (j : Int) + 1 by omega]; exact this
        · intro t ht
          rcases List.mem_append.1 ht with ht | ht
          · have := HID.out t ht; have := HJ.out; omega
          · simp only [List.mem_singleton] at ht
            subst ht
            have := HI.out; have := HJ.out
            show 100 + i ≤ _
            omega
      case measure => have := HI.out; simp [intOf]; omega
    · have hjn : (j : Int) = N := by omega
      have hd : decide ((j : Int) + 1 ≤ N) = false := by simp; omega
      have HJN := Lib.hid hjn
      clear hlt kf hjn
      go_wp2_with fail
      have hjn := HJN.out
      clear hd k0 k1 k2 k3 k4 k5 k6 k7 k8
      rw [hjn] at HOK
      have HKN := Lib.hid (show H4 wr b3 w.heap.size true 1 N (.slice a j cap) l by rw [← hjn]; exact HK.out)
      have HMN := Lib.hid (show ((0 : Nat) : Int) + (l.length : Int) = N by have := HJL.out; omega)
      have HJM := Lib.hid (show j = l.length from HJL.out.symm)
      clear HK HID hjn
      go_loopw [7, 8] (fun t i wr => ∃ (q u : Nat) (a : Option Addr) (m cap : Nat) (l : List Y), q ≤ 40 ∧ i = .int .i64 q ∧ t = .int .i64 u ∧ Hid (m = l.length) ∧ Hid ((u : Int) + (l.length : Int) = N) ∧ Hid (LOk true 1 N l) ∧ Hid (H4 wr b3 w.heap.size true 1 N (.slice a m cap) l) ∧ Hid (Below w.heap.size w wr)) (fun _ i _ => (40 - intOf i).toNat)
      case atStart => exact ⟨0, 0, a, j, cap, l, by omega, by go_num, by go_num, HJM, HMN, HOK, HKN, HL⟩
      case round =>
        clear HOK HKN HMN HJM HJL HL
        obtain ⟨q, u, a, m, cap, l, hq, rfl, rfl, HML, HUN, HOK, HK, HL⟩ := hrel
        by_cases hlt : q < 40
        · have HQ40 := Lib.hid hlt
          have hml : m ≤ 8 := by have := HOK.out.len; have := HML.out; omega
          obtain ⟨p, hp⟩ : ∃ p : Int, p = (q : Int) + 1 := ⟨_, rfl⟩
          obtain ⟨z, hz⟩ : ∃ z, z = atF cf len0 p.toNat := ⟨_, rfl⟩
          have hzb := atF_bd HC.out p.toNat
          rw [← hz] at hzb
          have HZ := Lib.hid hz.symm
          have hwp : IntKind.i64.wrap ((q : Int) + 1) = p := by rw [hp]; exact IntWalk.i64_in _ (by omega)
          obtain ⟨r, hr⟩ : ∃ r, r = z % 8 := ⟨_, rfl⟩
          have hmz : z.tmod 8 = r := by rw [hr]; exact Int.tmod_eq_emod_of_nonneg hzb.1
          have hwr : IntKind.i64.wrap r = r := IntWalk.i64_in _ (by omega)
          obtain ⟨s, hs⟩ : ∃ s, s = 1 + r := ⟨_, rfl⟩
          have hws : IntKind.i64.wrap (1 + r) = s := by rw [hs]; exact IntWalk.i64_in _ (by omega)
          obtain ⟨S, hS⟩ : ∃ S, S = ansL true 1 N l 1 s := ⟨_, rfl⟩
          obtain ⟨m2, hm2⟩ : ∃ x, x = S.length := ⟨_, rfl⟩
          obtain ⟨I, hI⟩ : ∃ x, x = ansI true 1 N l 1 s := ⟨_, rfl⟩
          have HS := Lib.hid hS
          have HM2 := Lib.hid hm2
          have HI2 := Lib.hid hI
          have HOK2 := Lib.hid (show LOk true 1 N S by rw [hS]; exact ansL_ok HOK.out)
          have hm2l : m2 ≤ 8 := by have := HOK2.out.len; omega
          have hp0 : 0 ≤ p ∧ p ≤ 40 := by omega
          have hltd : (q : Int) < 40 := by omega
          have HPQ := Lib.hid hp
          clear hp hz hr hs hS hm2 hI hzb
          go_upto_region 13 with fail
          go_cut [9, 10] (fun s9 s10 wx => ∃ k ak ck, s9 = .pointer (some ⟨k, 0, none⟩) ∧ s10 = .int .i64 I ∧ Hid (Below wr.heap.size wr wx) ∧ Hid (H4 wx k wr.heap.size true 1 N (.slice ak m2 ck) S))
          case first =>
            have HLd := Lib.hid (show Below wr.heap.size wr wr.drew from below_drew' (Below.refl _ _))
            have HKd := Lib.hid (HK.out.below HLd.out)
            refine wp_region_held_drew (S := fun w' => w'.cell? ⟨b3, 0, none⟩ = some (.bool true) ∧ w'.cell? ⟨b3, 1, none⟩ = some (.int .i64 1) ∧ w'.cell? ⟨b3, 2, none⟩ = some (.int .i64 N) ∧ w'.cell? ⟨b3, 3, none⟩ = some (.slice a m cap)) (by kernel_rfl) ⟨HKd.out.box.c0, HKd.out.box.c1, HKd.out.box.c2, HKd.out.box.c3⟩ (fun hHeld => ?_)
            obtain ⟨wd, hwd⟩ : ∃ x, x = wr.drew := ⟨_, rfl⟩
            rw [← hwd] at HLd HKd hHeld ⊢
            clear hwd
            refine wpAnyH_take (i := 0) (oi := { dst := some _, op := _, type := _, pos := _, after := _, guard := _ }) (v := ?_) rfl (by kernel_rfl) (by kernel_rfl) (by kernel_rfl) (fun _ _ _ h => h) ?_ (by with_reducible assumption) ?_
            rotate_left 1
            focus (refine Or.inl ⟨by rfl, ?_⟩; intro wq hSw; obtain ⟨s0, s1, s2, s3⟩ := hSw; go_simp; try with_reducible rfl)
            try simp only [Act.put, List.setIfInBounds_toArray, List.set_cons_zero, List.set_cons_succ]
            refine wpAnyH_take (i := 1) (oi := { dst := some _, op := _, type := _, pos := _, after := _, guard := _ }) (v := ?_) rfl (by kernel_rfl) (by kernel_rfl) (by kernel_rfl) (fun _ _ _ h => h) ?_ (by with_reducible assumption) ?_
            rotate_left 1
            focus (refine Or.inl ⟨by rfl, ?_⟩; intro wq hSw; obtain ⟨s0, s1, s2, s3⟩ := hSw; go_simp; try with_reducible rfl)
            try simp only [Act.put, List.setIfInBounds_toArray, List.set_cons_zero, List.set_cons_succ]
            refine wpAnyH_take (i := 2) (oi := { dst := some _, op := _, type := _, pos := _, after := _, guard := _ }) (v := ?_) rfl (by kernel_rfl) (by kernel_rfl) (by kernel_rfl) (fun _ _ _ h => h) ?_ (by with_reducible assumption) ?_
            rotate_left 1
            focus (refine Or.inl ⟨by rfl, ?_⟩; intro wq hSw; obtain ⟨s0, s1, s2, s3⟩ := hSw; go_simp; try with_reducible rfl)
            try simp only [Act.put, List.setIfInBounds_toArray, List.set_cons_zero, List.set_cons_succ]
            refine wpAnyH_take (i := 3) (oi := { dst := some _, op := _, type := _, pos := _, after := _, guard := _ }) (v := ?_) rfl (by kernel_rfl) (by kernel_rfl) (by kernel_rfl) (fun _ _ _ h => h) ?_ (by with_reducible assumption) ?_
            rotate_left 1
            focus (refine Or.inl ⟨by rfl, ?_⟩; intro wq hSw; obtain ⟨s0, s1, s2, s3⟩ := hSw; go_simp; try with_reducible rfl)
            try simp only [Act.put, List.setIfInBounds_toArray, List.set_cons_zero, List.set_cons_succ]
            refine wpAnyH_ready (rs := [4, 11]) (by kernel_rfl) (by simp) ?_
            refine AllReadyH.cons rfl (fun KT hKT => ?_) ?_
            · go_simp
              refine (at_int _ w.heap.size a0 len0 cap0 cf (HC.out.below (low_after HL.out HLd.out)) p (by omega) (by omega) z HZ.out).mono ?_
              rintro e w5 ⟨⟨rfl, _, _⟩, rfl⟩
              dsimp only
              refine hKT.out _ _ ⟨HKd.out.box.c0, HKd.out.box.c1, HKd.out.box.c2, HKd.out.box.c3⟩ (fun hHeld => ?_)
              clear hKT
              try simp only [Act.put, List.setIfInBounds_toArray, List.set_cons_zero, List.set_cons_succ]
              refine wpAnyH_take (i := 5) (oi := { dst := some _, op := _, type := _, pos := _, after := _, guard := _ }) (v := ?_) rfl (by kernel_rfl) (by kernel_rfl) (by kernel_rfl) (fun _ _ _ h => h) ?_ (by with_reducible assumption) ?_
              rotate_left 1
              focus (refine Or.inl ⟨by rfl, ?_⟩; intro wq hSw; obtain ⟨s0, s1, s2, s3⟩ := hSw; go_simp; try with_reducible rfl)
              try simp only [Act.put, List.setIfInBounds_toArray, List.set_cons_zero, List.set_cons_succ]
              refine wpAnyH_take (i := 6) (oi := { dst := some _, op := _, type := _, pos := _, after := _, guard := _ }) (v := ?_) rfl (by kernel_rfl) (by kernel_rfl) (by kernel_rfl) (fun _ _ _ h => h) ?_ (by with_reducible assumption) ?_
              rotate_left 1
              focus (refine Or.inl ⟨by rfl, ?_⟩; intro wq hSw; obtain ⟨s0, s1, s2, s3⟩ := hSw; go_simp; try with_reducible rfl)
              try simp only [Act.put, List.setIfInBounds_toArray, List.set_cons_zero, List.set_cons_succ]
              refine wpAnyH_ready (rs := [7, 11]) (by kernel_rfl) (by simp) ?_
              refine AllReadyH.cons rfl (fun KM hKM => ?_) ?_
              · go_simp
                refine (answer_any _ a m cap true 1 N l 1 s HKd.out.own.isN (by omega)).mono ?_
                rintro e wM ⟨⟨ax, cx, rfl, ho⟩, hb⟩
                rw [← HS.out, ← HM2.out] at ho ⊢
                rw [← HI2.out]
                have HKn := Lib.hid (HKd.out.below hb)
                have HLn := Lib.hid (low_after HLd.out hb)
                have HOn := Lib.hid (ho.base HLd.out.size)
                clear ho hb
                dsimp only
                refine hKM.out _ _ ⟨HKn.out.box.c0, HKn.out.box.c1, HKn.out.box.c2, HKn.out.box.c3⟩ (fun hHeld => ?_)
                clear hKM
                try simp only [Act.put, List.setIfInBounds_toArray, List.set_cons_zero, List.set_cons_succ]
                refine wpAnyH_take (i := 8) (oi := { dst := some _, op := _, type := _, pos := _, after := _, guard := _ }) (v := ?_) rfl (by kernel_rfl) (by kernel_rfl) (by kernel_rfl) (fun _ _ _ h => h) ?_ (by with_reducible assumption) ?_
                rotate_left 1
                focus (refine Or.inl ⟨by rfl, ?_⟩; intro wq hSw; obtain ⟨s0, s1, s2, s3⟩ := hSw; go_simp; try with_reducible rfl)
                try simp only [Act.put, List.setIfInBounds_toArray, List.set_cons_zero, List.set_cons_succ]
                refine wpAnyH_take (i := 9) (oi := { dst := some _, op := _, type := _, pos := _, after := _, guard := _ }) (v := ?_) rfl (by kernel_rfl) (by kernel_rfl) (by kernel_rfl) (fun _ _ _ h => h) ?_ (by with_reducible assumption) ?_
                rotate_left 1
                focus (refine Or.inl ⟨by rfl, ?_⟩; intro wq hSw; obtain ⟨s0, s1, s2, s3⟩ := hSw; go_simp; try with_reducible rfl)
                try simp only [Act.put, List.setIfInBounds_toArray, List.set_cons_zero, List.set_cons_succ]
                refine wpAnyH_take (i := 10) (oi := { dst := some _, op := _, type := _, pos := _, after := _, guard := _ }) (v := ?_) rfl (by kernel_rfl) (by kernel_rfl) (by kernel_rfl) (fun _ _ _ h => h) ?_ (by with_reducible assumption) ?_
                rotate_left 1
                focus (refine Or.inl ⟨by rfl, ?_⟩; intro wq hSw; obtain ⟨s0, s1, s2, s3⟩ := hSw; go_simp; try with_reducible rfl)
                try simp only [Act.put, List.setIfInBounds_toArray, List.set_cons_zero, List.set_cons_succ]
                refine wpAnyH_ready (rs := [11]) (by kernel_rfl) (by simp) ?_
                refine AllReadyH.cons rfl (fun KA hKA => ?_) AllReadyH.nil
                go_simp
                have HBz := Lib.hid (bOne wM (.cells #[.bool false, .int .i64 0, .int .i64 0, .slice none 0 0] 26))
                have HKm := Lib.hid (HKn.out.below HBz.out)
                refine hKA.out _ _ ⟨HKm.out.box.c0, HKm.out.box.c1, HKm.out.box.c2, HKm.out.box.c3⟩ (fun hHeld => ?_)
                clear hKA
                try simp only [Act.put, List.setIfInBounds_toArray, List.set_cons_zero, List.set_cons_succ]
                refine wpAnyH_ready (rs := [12]) (by kernel_rfl) (by simp) ?_
                refine AllReadyH.cons rfl (fun KS hKS => ?_) AllReadyH.nil
                go_simp
                have HBy := Lib.hid (bOne wM (.cells #[.bool true, .int .i64 1, .int .i64 N, .slice ax m2 cx] 26))
                have HKy := Lib.hid (HKn.out.below HBy.out)
                have HZP := Lib.hid (H4.new HOn.out HLn.out.size true 1 N)
                have HLP := Lib.hid (low_after HLn.out HBy.out)
                refine hKS.out _ _ ⟨HKy.out.box.c0, HKy.out.box.c1, HKy.out.box.c2, HKy.out.box.c3⟩ (fun hHeld => ?_)
                clear hKS
                try simp only [Act.put, List.setIfInBounds_toArray, List.set_cons_zero, List.set_cons_succ]
                refine wpAnyH_take (i := 13) (oi := { dst := some _, op := _, type := _, pos := _, after := _, guard := _ }) (v := ?_) rfl (by kernel_rfl) (by kernel_rfl) (by kernel_rfl) (fun _ _ _ h => h) ?_ (by with_reducible assumption) ?_
                rotate_left 1
                focus (refine Or.inl ⟨by rfl, ?_⟩; intro wq hSw; obtain ⟨s0, s1, s2, s3⟩ := hSw; go_simp; try with_reducible rfl)
                try simp only [Act.put, List.setIfInBounds_toArray, List.set_cons_zero, List.set_cons_succ]
                refine wpAnyH_done (by kernel_rfl) ?_ _
                go_wp2_with fail
                go_meet
                exact ⟨_, ax, cx, rfl, rfl, HLP, HZP⟩
              · refine AllReadyH.cons rfl (fun KA hKA => ?_) AllReadyH.nil
                go_simp
                have HBz := Lib.hid (bOne wd (.cells #[.bool false, .int .i64 0, .int .i64 0, .slice none 0 0] 26))
                have HZ0 := Lib.hid (H4.new (YOwn.nil wr.heap.size wd 40) HLd.out.size false 0 0)
                have HKz := Lib.hid (HKd.out.below HBz.out)
                have HLz := Lib.hid (low_after HLd.out HBz.out)
                have HNEQ := Lib.hid (show b3 ≠ wd.heap.size from Nat.ne_of_lt HKd.out.box.lt)
                refine hKA.out _ _ ⟨HKz.out.box.c0, HKz.out.box.c1, HKz.out.box.c2, HKz.out.box.c3⟩ (fun hHeld => ?_)
                clear hKA
                try simp only [Act.put, List.setIfInBounds_toArray, List.set_cons_zero, List.set_cons_succ]
                refine wpAnyH_ready (rs := [7]) (by kernel_rfl) (by simp) ?_
                refine AllReadyH.cons rfl (fun KM hKM => ?_) AllReadyH.nil
                go_simp
                refine (answer_any _ a m cap true 1 N l 1 s HKz.out.own.isN (by omega)).mono ?_
                rintro e wM ⟨⟨ax, cx, rfl, ho⟩, hb⟩
                rw [← HS.out, ← HM2.out] at ho ⊢
                rw [← HI2.out]
                have HZm := Lib.hid (HZ0.out.below hb)
                have HKm := Lib.hid (HKz.out.below hb)
                have HLm := Lib.hid (low_after HLz.out hb)
                have HOm := Lib.hid (ho.base HLz.out.size)
                have HNE := Lib.hid (show (Value.slice ax m2 cx).ownBlock ≠ some wd.heap.size from fun e => by have := (World.ownsRow.lt ho _ e).1; simp at this; omega)
                clear ho hb
                dsimp only
                refine hKM.out _ _ ⟨HKm.out.box.c0, HKm.out.box.c1, HKm.out.box.c2, HKm.out.box.c3⟩ (fun hHeld => ?_)
                clear hKM
                try simp only [Act.put, List.setIfInBounds_toArray, List.set_cons_zero, List.set_cons_succ]
                refine wpAnyH_take (i := 8) (oi := { dst := some _, op := _, type := _, pos := _, after := _, guard := _ }) (v := ?_) rfl (by kernel_rfl) (by kernel_rfl) (by kernel_rfl) (fun _ _ _ h => h) ?_ (by with_reducible assumption) ?_
                rotate_left 1
                focus (refine Or.inl ⟨by rfl, ?_⟩; intro wq hSw; obtain ⟨s0, s1, s2, s3⟩ := hSw; go_simp; try with_reducible rfl)
                try simp only [Act.put, List.setIfInBounds_toArray, List.set_cons_zero, List.set_cons_succ]
                refine wpAnyH_take (i := 9) (oi := { dst := some _, op := _, type := _, pos := _, after := _, guard := _ }) (v := ?_) rfl (by kernel_rfl) (by kernel_rfl) (by kernel_rfl) (fun _ _ _ h => h) ?_ (by with_reducible assumption) ?_
                rotate_left 1
                focus (refine Or.inl ⟨by rfl, ?_⟩; intro wq hSw; obtain ⟨s0, s1, s2, s3⟩ := hSw; go_simp; try with_reducible rfl)
                try simp only [Act.put, List.setIfInBounds_toArray, List.set_cons_zero, List.set_cons_succ]
                refine wpAnyH_take (i := 10) (oi := { dst := some _, op := _, type := _, pos := _, after := _, guard := _ }) (v := ?_) rfl (by kernel_rfl) (by kernel_rfl) (by kernel_rfl) (fun _ _ _ h => h) ?_ (by with_reducible assumption) ?_
                rotate_left 1
                focus (refine Or.inl ⟨by rfl, ?_⟩; intro wq hSw; obtain ⟨s0, s1, s2, s3⟩ := hSw; go_simp; try with_reducible rfl)
                try simp only [Act.put, List.setIfInBounds_toArray, List.set_cons_zero, List.set_cons_succ]
                refine wpAnyH_ready (rs := [12]) (by kernel_rfl) (by simp) ?_
                refine AllReadyH.cons rfl (fun KS hKS => ?_) AllReadyH.nil
                obtain ⟨⟨z0, z1, z2, z3⟩, z4, z5, z6⟩ := HZm.out.cells
                have zf := HZm.out.fro
                have z7 := zf 0
                have z8 := zf 1
                have zne := HNEQ.out
                go_simp
                refine hKS.out _ _ (by refine ⟨?_, ?_, ?_, ?_⟩ <;> simp [World.cell?_setCell_far, zne, Ne.symm zne, HKm.out.box.c0, HKm.out.box.c1, HKm.out.box.c2, HKm.out.box.c3]) (fun hHeld => ?_)
                clear hKS z0 z1 z2 z3 z4 z5 z6 z7 z8 zf zne
                try simp only [Act.put, List.setIfInBounds_toArray, List.set_cons_zero, List.set_cons_succ]
                refine wpAnyH_take (i := 13) (oi := { dst := some _, op := _, type := _, pos := _, after := _, guard := _ }) (v := ?_) rfl (by kernel_rfl) (by kernel_rfl) (by kernel_rfl) (fun _ _ _ h => h) ?_ (by with_reducible assumption) ?_
                rotate_left 1
                focus (refine Or.inl ⟨by rfl, ?_⟩; intro wq hSw; obtain ⟨s0, s1, s2, s3⟩ := hSw; go_simp; try with_reducible rfl)
                try simp only [Act.put, List.setIfInBounds_toArray, List.set_cons_zero, List.set_cons_succ]
                refine wpAnyH_done (by kernel_rfl) ?_ _
                go_wp2_with fail
                go_meet
                have HZP := Lib.hid (HZm.out.put1 HOm.out HNE.out true 1 N)
                have HLP := Lib.hid (low_put4 HLm.out HZm.out.lo (.bool true) (.int .i64 1) (.int .i64 N) (.slice ax m2 cx))
                exact ⟨_, ax, cx, rfl, rfl, HLP, HZP⟩
            · refine AllReadyH.cons rfl (fun KA hKA => ?_) AllReadyH.nil
              go_simp
              have HBz := Lib.hid (bOne wd (.cells #[.bool false, .int .i64 0, .int .i64 0, .slice none 0 0] 26))
              have HZ0 := Lib.hid (H4.new (YOwn.nil wr.heap.size wd 40) HLd.out.size false 0 0)
              have HKz := Lib.hid (HKd.out.below HBz.out)
              have HLz := Lib.hid (low_after HLd.out HBz.out)
              have HNEQ := Lib.hid (show b3 ≠ wd.heap.size from Nat.ne_of_lt HKd.out.box.lt)
              refine hKA.out _ _ ⟨HKz.out.box.c0, HKz.out.box.c1, HKz.out.box.c2, HKz.out.box.c3⟩ (fun hHeld => ?_)
              clear hKA
              try simp only [Act.put, List.setIfInBounds_toArray, List.set_cons_zero, List.set_cons_succ]
              refine wpAnyH_ready (rs := [4]) (by kernel_rfl) (by simp) ?_
              refine AllReadyH.cons rfl (fun KT hKT => ?_) AllReadyH.nil
              go_simp
              refine (at_int _ w.heap.size a0 len0 cap0 cf (HC.out.below (low_after HL.out HLz.out)) p (by omega) (by omega) z HZ.out).mono ?_
              rintro e w5 ⟨⟨rfl, _, _⟩, rfl⟩
              dsimp only
              refine hKT.out _ _ ⟨HKz.out.box.c0, HKz.out.box.c1, HKz.out.box.c2, HKz.out.box.c3⟩ (fun hHeld => ?_)
              clear hKT
              try simp only [Act.put, List.setIfInBounds_toArray, List.set_cons_zero, List.set_cons_succ]
              refine wpAnyH_take (i := 5) (oi := { dst := some _, op := _, type := _, pos := _, after := _, guard := _ }) (v := ?_) rfl (by kernel_rfl) (by kernel_rfl) (by kernel_rfl) (fun _ _ _ h => h) ?_ (by with_reducible assumption) ?_
              rotate_left 1
              focus (refine Or.inl ⟨by rfl, ?_⟩; intro wq hSw; obtain ⟨s0, s1, s2, s3⟩ := hSw; go_simp; try with_reducible rfl)
              try simp only [Act.put, List.setIfInBounds_toArray, List.set_cons_zero, List.set_cons_succ]
              refine wpAnyH_take (i := 6) (oi := { dst := some _, op := _, type := _, pos := _, after := _, guard := _ }) (v := ?_) rfl (by kernel_rfl) (by kernel_rfl) (by kernel_rfl) (fun _ _ _ h => h) ?_ (by with_reducible assumption) ?_
              rotate_left 1
              focus (refine Or.inl ⟨by rfl, ?_⟩; intro wq hSw; obtain ⟨s0, s1, s2, s3⟩ := hSw; go_simp; try with_reducible rfl)
              try simp only [Act.put, List.setIfInBounds_toArray, List.set_cons_zero, List.set_cons_succ]
              refine wpAnyH_ready (rs := [7]) (by kernel_rfl) (by simp) ?_
              refine AllReadyH.cons rfl (fun KM hKM => ?_) AllReadyH.nil
              go_simp
              refine (answer_any _ a m cap true 1 N l 1 s HKz.out.own.isN (by omega)).mono ?_
              rintro e wM ⟨⟨ax, cx, rfl, ho⟩, hb⟩
              rw [← HS.out, ← HM2.out] at ho ⊢
              rw [← HI2.out]
              have HZm := Lib.hid (HZ0.out.below hb)
              have HKm := Lib.hid (HKz.out.below hb)
              have HLm := Lib.hid (low_after HLz.out hb)
              have HOm := Lib.hid (ho.base HLz.out.size)
              have HNE := Lib.hid (show (Value.slice ax m2 cx).ownBlock ≠ some wd.heap.size from fun e => by have := (World.ownsRow.lt ho _ e).1; simp at this; omega)
              clear ho hb
              dsimp only
              refine hKM.out _ _ ⟨HKm.out.box.c0, HKm.out.box.c1, HKm.out.box.c2, HKm.out.box.c3⟩ (fun hHeld => ?_)
              clear hKM
              try simp only [Act.put, List.setIfInBounds_toArray, List.set_cons_zero, List.set_cons_succ]
              refine wpAnyH_take (i := 8) (oi := { dst := some _, op := _, type := _, pos := _, after := _, guard := _ }) (v := ?_) rfl (by kernel_rfl) (by kernel_rfl) (by kernel_rfl) (fun _ _ _ h => h) ?_ (by with_reducible assumption) ?_
              rotate_left 1
              focus (refine Or.inl ⟨by rfl, ?_⟩; intro wq hSw; obtain ⟨s0, s1, s2, s3⟩ := hSw; go_simp; try with_reducible rfl)
              try simp only [Act.put, List.setIfInBounds_toArray, List.set_cons_zero, List.set_cons_succ]
              refine wpAnyH_take (i := 9) (oi := { dst := some _, op := _, type := _, pos := _, after := _, guard := _ }) (v := ?_) rfl (by kernel_rfl) (by kernel_rfl) (by kernel_rfl) (fun _ _ _ h => h) ?_ (by with_reducible assumption) ?_
              rotate_left 1
              focus (refine Or.inl ⟨by rfl, ?_⟩; intro wq hSw; obtain ⟨s0, s1, s2, s3⟩ := hSw; go_simp; try with_reducible rfl)
              try simp only [Act.put, List.setIfInBounds_toArray, List.set_cons_zero, List.set_cons_succ]
              refine wpAnyH_take (i := 10) (oi := { dst := some _, op := _, type := _, pos := _, after := _, guard := _ }) (v := ?_) rfl (by kernel_rfl) (by kernel_rfl) (by kernel_rfl) (fun _ _ _ h => h) ?_ (by with_reducible assumption) ?_
              rotate_left 1
              focus (refine Or.inl ⟨by rfl, ?_⟩; intro wq hSw; obtain ⟨s0, s1, s2, s3⟩ := hSw; go_simp; try with_reducible rfl)
              try simp only [Act.put, List.setIfInBounds_toArray, List.set_cons_zero, List.set_cons_succ]
              refine wpAnyH_ready (rs := [12]) (by kernel_rfl) (by simp) ?_
              refine AllReadyH.cons rfl (fun KS hKS => ?_) AllReadyH.nil
              obtain ⟨⟨z0, z1, z2, z3⟩, z4, z5, z6⟩ := HZm.out.cells
              have zf := HZm.out.fro
              have z7 := zf 0
              have z8 := zf 1
              have zne := HNEQ.out
              go_simp
              refine hKS.out _ _ (by refine ⟨?_, ?_, ?_, ?_⟩ <;> simp [World.cell?_setCell_far, zne, Ne.symm zne, HKm.out.box.c0, HKm.out.box.c1, HKm.out.box.c2, HKm.out.box.c3]) (fun hHeld => ?_)
              clear hKS z0 z1 z2 z3 z4 z5 z6 z7 z8 zf zne
              try simp only [Act.put, List.setIfInBounds_toArray, List.set_cons_zero, List.set_cons_succ]
              refine wpAnyH_take (i := 13) (oi := { dst := some _, op := _, type := _, pos := _, after := _, guard := _ }) (v := ?_) rfl (by kernel_rfl) (by kernel_rfl) (by kernel_rfl) (fun _ _ _ h => h) ?_ (by with_reducible assumption) ?_
              rotate_left 1
              focus (refine Or.inl ⟨by rfl, ?_⟩; intro wq hSw; obtain ⟨s0, s1, s2, s3⟩ := hSw; go_simp; try with_reducible rfl)
              try simp only [Act.put, List.setIfInBounds_toArray, List.set_cons_zero, List.set_cons_succ]
              refine wpAnyH_done (by kernel_rfl) ?_ _
              go_wp2_with fail
              go_meet
              have HZP := Lib.hid (HZm.out.put1 HOm.out HNE.out true 1 N)
              have HLP := Lib.hid (low_put4 HLm.out HZm.out.lo (.bool true) (.int .i64 1) (.int .i64 N) (.slice ax m2 cx))
              exact ⟨_, ax, cx, rfl, rfl, HLP, HZP⟩
          case rest =>
            obtain ⟨kb, ab, cb, rfl, rfl, HLB, HB⟩ := hcut
            obtain ⟨wx, rfl⟩ : ∃ x, x = wc := ⟨_, rfl⟩
            obtain ⟨B0, hB0⟩ : ∃ B, B = wr.heap.size := ⟨_, rfl⟩
            rw [← hB0] at HB
            have HB1 := Lib.hid (show w.heap.size ≤ B0 by rw [hB0]; exact HL.out.size)
            have HB3 := Lib.hid (show b3 < B0 by rw [hB0]; exact HK.out.box.lt)
            replace HK := Lib.hid (HK.out.below HLB.out)
            replace HL := Lib.hid (low_after HL.out HLB.out)
            clear hB0 HLB
            go_upto_region 14 with fail
            go_cut [11, 12] (fun s9 s10 wx2 => ∃ k ak ck, s9 = .pointer (some ⟨k, 0, none⟩) ∧ s10 = .int .i64 I ∧ Hid (Below wx.heap.size wx wx2) ∧ Hid (H4 wx2 k wx.heap.size true 1 N (.slice ak m2 ck) S))
            case first =>
              have HLd := Lib.hid (show Below wx.heap.size wx wx.drew from below_drew' (Below.refl _ _))
              have HKd := Lib.hid (HK.out.below HLd.out)
              refine wp_region_held_drew (S := fun w' => w'.cell? ⟨b3, 0, none⟩ = some (.bool true) ∧ w'.cell? ⟨b3, 1, none⟩ = some (.int .i64 1) ∧ w'.cell? ⟨b3, 2, none⟩ = some (.int .i64 N) ∧ w'.cell? ⟨b3, 3, none⟩ = some (.slice a m cap)) (by kernel_rfl) ⟨HKd.out.box.c0, HKd.out.box.c1, HKd.out.box.c2, HKd.out.box.c3⟩ (fun hHeld => ?_)
              obtain ⟨wd, hwd⟩ : ∃ x, x = wx.drew := ⟨_, rfl⟩
              rw [← hwd] at HLd HKd hHeld ⊢
              clear hwd
              refine wpAnyH_take (i := 0) (oi := { dst := some _, op := _, type := _, pos := _, after := _, guard := _ }) (v := ?_) rfl (by kernel_rfl) (by kernel_rfl) (by kernel_rfl) (fun _ _ _ h => h) ?_ (by with_reducible assumption) ?_
              rotate_left 1
              focus (refine Or.inl ⟨by rfl, ?_⟩; intro wq hSw; obtain ⟨s0, s1, s2, s3⟩ := hSw; go_simp; try with_reducible rfl)
              try simp only [Act.put, List.setIfInBounds_toArray, List.set_cons_zero, List.set_cons_succ]
              refine wpAnyH_take (i := 1) (oi := { dst := some _, op := _, type := _, pos := _, after := _, guard := _ }) (v := ?_) rfl (by kernel_rfl) (by kernel_rfl) (by kernel_rfl) (fun _ _ _ h => h) ?_ (by with_reducible assumption) ?_
              rotate_left 1
              focus (refine Or.inl ⟨by rfl, ?_⟩; intro wq hSw; obtain ⟨s0, s1, s2, s3⟩ := hSw; go_simp; try with_reducible rfl)
              try simp only [Act.put, List.setIfInBounds_toArray, List.set_cons_zero, List.set_cons_succ]
              refine wpAnyH_take (i := 2) (oi := { dst := some _, op := _, type := _, pos := _, after := _, guard := _ }) (v := ?_) rfl (by kernel_rfl) (by kernel_rfl) (by kernel_rfl) (fun _ _ _ h => h) ?_ (by with_reducible assumption) ?_
              rotate_left 1
              focus (refine Or.inl ⟨by rfl, ?_⟩; intro wq hSw; obtain ⟨s0, s1, s2, s3⟩ := hSw; go_simp; try with_reducible rfl)
              try simp only [Act.put, List.setIfInBounds_toArray, List.set_cons_zero, List.set_cons_succ]
              refine wpAnyH_take (i := 3) (oi := { dst := some _, op := _, type := _, pos := _, after := _, guard := _ }) (v := ?_) rfl (by kernel_rfl) (by kernel_rfl) (by kernel_rfl) (fun _ _ _ h => h) ?_ (by with_reducible assumption) ?_
              rotate_left 1
              focus (refine Or.inl ⟨by rfl, ?_⟩; intro wq hSw; obtain ⟨s0, s1, s2, s3⟩ := hSw; go_simp; try with_reducible rfl)
              try simp only [Act.put, List.setIfInBounds_toArray, List.set_cons_zero, List.set_cons_succ]
              refine wpAnyH_ready (rs := [4, 11]) (by kernel_rfl) (by simp) ?_
              refine AllReadyH.cons rfl (fun KT hKT => ?_) ?_
              · go_simp
                refine (at_int _ w.heap.size a0 len0 cap0 cf (HC.out.below (low_after HL.out HLd.out)) p (by omega) (by omega) z HZ.out).mono ?_
                rintro e w5 ⟨⟨rfl, _, _⟩, rfl⟩
                dsimp only
                refine hKT.out _ _ ⟨HKd.out.box.c0, HKd.out.box.c1, HKd.out.box.c2, HKd.out.box.c3⟩ (fun hHeld => ?_)
                clear hKT
                try simp only [Act.put, List.setIfInBounds_toArray, List.set_cons_zero, List.set_cons_succ]
                refine wpAnyH_take (i := 5) (oi := { dst := some _, op := _, type := _, pos := _, after := _, guard := _ }) (v := ?_) rfl (by kernel_rfl) (by kernel_rfl) (by kernel_rfl) (fun _ _ _ h => h) ?_ (by with_reducible assumption) ?_
                rotate_left 1
                focus (refine Or.inl ⟨by rfl, ?_⟩; intro wq hSw; obtain ⟨s0, s1, s2, s3⟩ := hSw; go_simp; try with_reducible rfl)
                try simp only [Act.put, List.setIfInBounds_toArray, List.set_cons_zero, List.set_cons_succ]
                refine wpAnyH_take (i := 6) (oi := { dst := some _, op := _, type := _, pos := _, after := _, guard := _ }) (v := ?_) rfl (by kernel_rfl) (by kernel_rfl) (by kernel_rfl) (fun _ _ _ h => h) ?_ (by with_reducible assumption) ?_
                rotate_left 1
                focus (refine Or.inl ⟨by rfl, ?_⟩; intro wq hSw; obtain ⟨s0, s1, s2, s3⟩ := hSw; go_simp; try with_reducible rfl)
                try simp only [Act.put, List.setIfInBounds_toArray, List.set_cons_zero, List.set_cons_succ]
                refine wpAnyH_ready (rs := [7, 11]) (by kernel_rfl) (by simp) ?_
                refine AllReadyH.cons rfl (fun KM hKM => ?_) ?_
                · go_simp
                  refine (specAnswer_any _ a m cap true 1 N l 1 s HKd.out.own.isN (by omega) HKd.out.own.nilcap).mono ?_
                  rintro e wM ⟨⟨ax, cx, rfl, ho⟩, hb⟩
                  rw [← HS.out, ← HM2.out] at ho ⊢
                  rw [← HI2.out]
                  have HKn := Lib.hid (HKd.out.below hb)
                  have HLn := Lib.hid (low_after HLd.out hb)
                  have HOn := Lib.hid (ho.base HLd.out.size)
                  clear ho hb
                  dsimp only
                  refine hKM.out _ _ ⟨HKn.out.box.c0, HKn.out.box.c1, HKn.out.box.c2, HKn.out.box.c3⟩ (fun hHeld => ?_)
                  clear hKM
                  try simp only [Act.put, List.setIfInBounds_toArray, List.set_cons_zero, List.set_cons_succ]
                  refine wpAnyH_take (i := 8) (oi := { dst := some _, op := _, type := _, pos := _, after := _, guard := _ }) (v := ?_) rfl (by kernel_rfl) (by kernel_rfl) (by kernel_rfl) (fun _ _ _ h => h) ?_ (by with_reducible assumption) ?_
                  rotate_left 1
                  focus (refine Or.inl ⟨by rfl, ?_⟩; intro wq hSw; obtain ⟨s0, s1, s2, s3⟩ := hSw; go_simp; try with_reducible rfl)
                  try simp only [Act.put, List.setIfInBounds_toArray, List.set_cons_zero, List.set_cons_succ]
                  refine wpAnyH_take (i := 9) (oi := { dst := some _, op := _, type := _, pos := _, after := _, guard := _ }) (v := ?_) rfl (by kernel_rfl) (by kernel_rfl) (by kernel_rfl) (fun _ _ _ h => h) ?_ (by with_reducible assumption) ?_
                  rotate_left 1
                  focus (refine Or.inl ⟨by rfl, ?_⟩; intro wq hSw; obtain ⟨s0, s1, s2, s3⟩ := hSw; go_simp; try with_reducible rfl)
                  try simp only [Act.put, List.setIfInBounds_toArray, List.set_cons_zero, List.set_cons_succ]
                  refine wpAnyH_take (i := 10) (oi := { dst := some _, op := _, type := _, pos := _, after := _, guard := _ }) (v := ?_) rfl (by kernel_rfl) (by kernel_rfl) (by kernel_rfl) (fun _ _ _ h => h) ?_ (by with_reducible assumption) ?_
                  rotate_left 1
                  focus (refine Or.inl ⟨by rfl, ?_⟩; intro wq hSw; obtain ⟨s0, s1, s2, s3⟩ := hSw; go_simp; try with_reducible rfl)
                  try simp only [Act.put, List.setIfInBounds_toArray, List.set_cons_zero, List.set_cons_succ]
                  refine wpAnyH_ready (rs := [11]) (by kernel_rfl) (by simp) ?_
                  refine AllReadyH.cons rfl (fun KA hKA => ?_) AllReadyH.nil
                  go_simp
                  have HBz := Lib.hid (bOne wM (.cells #[.bool false, .int .i64 0, .int .i64 0, .slice none 0 0] 26))
                  have HKm := Lib.hid (HKn.out.below HBz.out)
                  refine hKA.out _ _ ⟨HKm.out.box.c0, HKm.out.box.c1, HKm.out.box.c2, HKm.out.box.c3⟩ (fun hHeld => ?_)
                  clear hKA
                  try simp only [Act.put, List.setIfInBounds_toArray, List.set_cons_zero, List.set_cons_succ]
                  refine wpAnyH_ready (rs := [12]) (by kernel_rfl) (by simp) ?_
                  refine AllReadyH.cons rfl (fun KS hKS => ?_) AllReadyH.nil
                  go_simp
                  have HBy := Lib.hid (bOne wM (.cells #[.bool true, .int .i64 1, .int .i64 N, .slice ax m2 cx] 26))
                  have HKy := Lib.hid (HKn.out.below HBy.out)
                  have HZP := Lib.hid (H4.new HOn.out HLn.out.size true 1 N)
                  have HLP := Lib.hid (low_after HLn.out HBy.out)
                  refine hKS.out _ _ ⟨HKy.out.box.c0, HKy.out.box.c1, HKy.out.box.c2, HKy.out.box.c3⟩ (fun hHeld => ?_)
                  clear hKS
                  try simp only [Act.put, List.setIfInBounds_toArray, List.set_cons_zero, List.set_cons_succ]
                  refine wpAnyH_take (i := 13) (oi := { dst := some _, op := _, type := _, pos := _, after := _, guard := _ }) (v := ?_) rfl (by kernel_rfl) (by kernel_rfl) (by kernel_rfl) (fun _ _ _ h => h) ?_ (by with_reducible assumption) ?_
                  rotate_left 1
                  focus (refine Or.inl ⟨by rfl, ?_⟩; intro wq hSw; obtain ⟨s0, s1, s2, s3⟩ := hSw; go_simp; try with_reducible rfl)
                  try simp only [Act.put, List.setIfInBounds_toArray, List.set_cons_zero, List.set_cons_succ]
                  refine wpAnyH_done (by kernel_rfl) ?_ _
                  go_wp2_with fail
                  go_meet
                  exact ⟨_, ax, cx, rfl, rfl, HLP, HZP⟩
                · refine AllReadyH.cons rfl (fun KA hKA => ?_) AllReadyH.nil
                  go_simp
                  have HBz := Lib.hid (bOne wd (.cells #[.bool false, .int .i64 0, .int .i64 0, .slice none 0 0] 26))
                  have HZ0 := Lib.hid (H4.new (YOwn.nil wx.heap.size wd 40) HLd.out.size false 0 0)
                  have HKz := Lib.hid (HKd.out.below HBz.out)
                  have HLz := Lib.hid (low_after HLd.out HBz.out)
                  have HNEQ := Lib.hid (show b3 ≠ wd.heap.size from Nat.ne_of_lt HKd.out.box.lt)
                  refine hKA.out _ _ ⟨HKz.out.box.c0, HKz.out.box.c1, HKz.out.box.c2, HKz.out.box.c3⟩ (fun hHeld => ?_)
                  clear hKA
                  try simp only [Act.put, List.setIfInBounds_toArray, List.set_cons_zero, List.set_cons_succ]
                  refine wpAnyH_ready (rs := [7]) (by kernel_rfl) (by simp) ?_
                  refine AllReadyH.cons rfl (fun KM hKM => ?_) AllReadyH.nil
                  go_simp
                  refine (specAnswer_any _ a m cap true 1 N l 1 s HKz.out.own.isN (by omega) HKz.out.own.nilcap).mono ?_
                  rintro e wM ⟨⟨ax, cx, rfl, ho⟩, hb⟩
                  rw [← HS.out, ← HM2.out] at ho ⊢
                  rw [← HI2.out]
                  have HZm := Lib.hid (HZ0.out.below hb)
                  have HKm := Lib.hid (HKz.out.below hb)
                  have HLm := Lib.hid (low_after HLz.out hb)
                  have HOm := Lib.hid (ho.base HLz.out.size)
                  have HNE := Lib.hid (show (Value.slice ax m2 cx).ownBlock ≠ some wd.heap.size from fun e => by have := (World.ownsRow.lt ho _ e).1; simp at this; omega)
                  clear ho hb
                  dsimp only
                  refine hKM.out _ _ ⟨HKm.out.box.c0, HKm.out.box.c1, HKm.out.box.c2, HKm.out.box.c3⟩ (fun hHeld => ?_)
                  clear hKM
                  try simp only [Act.put, List.setIfInBounds_toArray, List.set_cons_zero, List.set_cons_succ]
                  refine wpAnyH_take (i := 8) (oi := { dst := some _, op := _, type := _, pos := _, after := _, guard := _ }) (v := ?_) rfl (by kernel_rfl) (by kernel_rfl) (by kernel_rfl) (fun _ _ _ h => h) ?_ (by with_reducible assumption) ?_
                  rotate_left 1
                  focus (refine Or.inl ⟨by rfl, ?_⟩; intro wq hSw; obtain ⟨s0, s1, s2, s3⟩ := hSw; go_simp; try with_reducible rfl)
                  try simp only [Act.put, List.setIfInBounds_toArray, List.set_cons_zero, List.set_cons_succ]
                  refine wpAnyH_take (i := 9) (oi := { dst := some _, op := _, type := _, pos := _, after := _, guard := _ }) (v := ?_) rfl (by kernel_rfl) (by kernel_rfl) (by kernel_rfl) (fun _ _ _ h => h) ?_ (by with_reducible assumption) ?_
                  rotate_left 1
                  focus (refine Or.inl ⟨by rfl, ?_⟩; intro wq hSw; obtain ⟨s0, s1, s2, s3⟩ := hSw; go_simp; try with_reducible rfl)
                  try simp only [Act.put, List.setIfInBounds_toArray, List.set_cons_zero, List.set_cons_succ]
                  refine wpAnyH_take (i := 10) (oi := { dst := some _, op := _, type := _, pos := _, after := _, guard := _ }) (v := ?_) rfl (by kernel_rfl) (by kernel_rfl) (by kernel_rfl) (fun _ _ _ h => h) ?_ (by with_reducible assumption) ?_
                  rotate_left 1
                  focus (refine Or.inl ⟨by rfl, ?_⟩; intro wq hSw; obtain ⟨s0, s1, s2, s3⟩ := hSw; go_simp; try with_reducible rfl)
                  try simp only [Act.put, List.setIfInBounds_toArray, List.set_cons_zero, List.set_cons_succ]
                  refine wpAnyH_ready (rs := [12]) (by kernel_rfl) (by simp) ?_
                  refine AllReadyH.cons rfl (fun KS hKS => ?_) AllReadyH.nil
                  obtain ⟨⟨z0, z1, z2, z3⟩, z4, z5, z6⟩ := HZm.out.cells
                  have zf := HZm.out.fro
                  have z7 := zf 0
                  have z8 := zf 1
                  have zne := HNEQ.out
                  go_simp
                  refine hKS.out _ _ (by refine ⟨?_, ?_, ?_, ?_⟩ <;> simp [World.cell?_setCell_far, zne, Ne.symm zne, HKm.out.box.c0, HKm.out.box.c1, HKm.out.box.c2, HKm.out.box.c3]) (fun hHeld => ?_)
                  clear hKS z0 z1 z2 z3 z4 z5 z6 z7 z8 zf zne
                  try simp only [Act.put, List.setIfInBounds_toArray, List.set_cons_zero, List.set_cons_succ]
                  refine wpAnyH_take (i := 13) (oi := { dst := some _, op := _, type := _, pos := _, after := _, guard := _ }) (v := ?_) rfl (by kernel_rfl) (by kernel_rfl) (by kernel_rfl) (fun _ _ _ h => h) ?_ (by with_reducible assumption) ?_
                  rotate_left 1
                  focus (refine Or.inl ⟨by rfl, ?_⟩; intro wq hSw; obtain ⟨s0, s1, s2, s3⟩ := hSw; go_simp; try with_reducible rfl)
                  try simp only [Act.put, List.setIfInBounds_toArray, List.set_cons_zero, List.set_cons_succ]
                  refine wpAnyH_done (by kernel_rfl) ?_ _
                  go_wp2_with fail
                  go_meet
                  have HZP := Lib.hid (HZm.out.put1 HOm.out HNE.out true 1 N)
                  have HLP := Lib.hid (low_put4 HLm.out HZm.out.lo (.bool true) (.int .i64 1) (.int .i64 N) (.slice ax m2 cx))
                  exact ⟨_, ax, cx, rfl, rfl, HLP, HZP⟩
              · refine AllReadyH.cons rfl (fun KA hKA => ?_) AllReadyH.nil
                go_simp
                have HBz := Lib.hid (bOne wd (.cells #[.bool false, .int .i64 0, .int .i64 0, .slice none 0 0] 26))
                have HZ0 := Lib.hid (H4.new (YOwn.nil wx.heap.size wd 40) HLd.out.size false 0 0)
                have HKz := Lib.hid (HKd.out.below HBz.out)
                have HLz := Lib.hid (low_after HLd.out HBz.out)
                have HNEQ := Lib.hid (show b3 ≠ wd.heap.size from Nat.ne_of_lt HKd.out.box.lt)
                refine hKA.out _ _ ⟨HKz.out.box.c0, HKz.out.box.c1, HKz.out.box.c2, HKz.out.box.c3⟩ (fun hHeld => ?_)
                clear hKA
                try simp only [Act.put, List.setIfInBounds_toArray, List.set_cons_zero, List.set_cons_succ]
                refine wpAnyH_ready (rs := [4]) (by kernel_rfl) (by simp) ?_
                refine AllReadyH.cons rfl (fun KT hKT => ?_) AllReadyH.nil
                go_simp
                refine (at_int _ w.heap.size a0 len0 cap0 cf (HC.out.below (low_after HL.out HLz.out)) p (by omega) (by omega) z HZ.out).mono ?_
                rintro e w5 ⟨⟨rfl, _, _⟩, rfl⟩
                dsimp only
                refine hKT.out _ _ ⟨HKz.out.box.c0, HKz.out.box.c1, HKz.out.box.c2, HKz.out.box.c3⟩ (fun hHeld => ?_)
                clear hKT
                try simp only [Act.put, List.setIfInBounds_toArray, List.set_cons_zero, List.set_cons_succ]
                refine wpAnyH_take (i := 5) (oi := { dst := some _, op := _, type := _, pos := _, after := _, guard := _ }) (v := ?_) rfl (by kernel_rfl) (by kernel_rfl) (by kernel_rfl) (fun _ _ _ h => h) ?_ (by with_reducible assumption) ?_
                rotate_left 1
                focus (refine Or.inl ⟨by rfl, ?_⟩; intro wq hSw; obtain ⟨s0, s1, s2, s3⟩ := hSw; go_simp; try with_reducible rfl)
                try simp only [Act.put, List.setIfInBounds_toArray, List.set_cons_zero, List.set_cons_succ]
                refine wpAnyH_take (i := 6) (oi := { dst := some _, op := _, type := _, pos := _, after := _, guard := _ }) (v := ?_) rfl (by kernel_rfl) (by kernel_rfl) (by kernel_rfl) (fun _ _ _ h => h) ?_ (by with_reducible assumption) ?_
                rotate_left 1
                focus (refine Or.inl ⟨by rfl, ?_⟩; intro wq hSw; obtain ⟨s0, s1, s2, s3⟩ := hSw; go_simp; try with_reducible rfl)
                try simp only [Act.put, List.setIfInBounds_toArray, List.set_cons_zero, List.set_cons_succ]
                refine wpAnyH_ready (rs := [7]) (by kernel_rfl) (by simp) ?_
                refine AllReadyH.cons rfl (fun KM hKM => ?_) AllReadyH.nil
                go_simp
                refine (specAnswer_any _ a m cap true 1 N l 1 s HKz.out.own.isN (by omega) HKz.out.own.nilcap).mono ?_
                rintro e wM ⟨⟨ax, cx, rfl, ho⟩, hb⟩
                rw [← HS.out, ← HM2.out] at ho ⊢
                rw [← HI2.out]
                have HZm := Lib.hid (HZ0.out.below hb)
                have HKm := Lib.hid (HKz.out.below hb)
                have HLm := Lib.hid (low_after HLz.out hb)
                have HOm := Lib.hid (ho.base HLz.out.size)
                have HNE := Lib.hid (show (Value.slice ax m2 cx).ownBlock ≠ some wd.heap.size from fun e => by have := (World.ownsRow.lt ho _ e).1; simp at this; omega)
                clear ho hb
                dsimp only
                refine hKM.out _ _ ⟨HKm.out.box.c0, HKm.out.box.c1, HKm.out.box.c2, HKm.out.box.c3⟩ (fun hHeld => ?_)
                clear hKM
                try simp only [Act.put, List.setIfInBounds_toArray, List.set_cons_zero, List.set_cons_succ]
                refine wpAnyH_take (i := 8) (oi := { dst := some _, op := _, type := _, pos := _, after := _, guard := _ }) (v := ?_) rfl (by kernel_rfl) (by kernel_rfl) (by kernel_rfl) (fun _ _ _ h => h) ?_ (by with_reducible assumption) ?_
                rotate_left 1
                focus (refine Or.inl ⟨by rfl, ?_⟩; intro wq hSw; obtain ⟨s0, s1, s2, s3⟩ := hSw; go_simp; try with_reducible rfl)
                try simp only [Act.put, List.setIfInBounds_toArray, List.set_cons_zero, List.set_cons_succ]
                refine wpAnyH_take (i := 9) (oi := { dst := some _, op := _, type := _, pos := _, after := _, guard := _ }) (v := ?_) rfl (by kernel_rfl) (by kernel_rfl) (by kernel_rfl) (fun _ _ _ h => h) ?_ (by with_reducible assumption) ?_
                rotate_left 1
                focus (refine Or.inl ⟨by rfl, ?_⟩; intro wq hSw; obtain ⟨s0, s1, s2, s3⟩ := hSw; go_simp; try with_reducible rfl)
                try simp only [Act.put, List.setIfInBounds_toArray, List.set_cons_zero, List.set_cons_succ]
                refine wpAnyH_take (i := 10) (oi := { dst := some _, op := _, type := _, pos := _, after := _, guard := _ }) (v := ?_) rfl (by kernel_rfl) (by kernel_rfl) (by kernel_rfl) (fun _ _ _ h => h) ?_ (by with_reducible assumption) ?_
                rotate_left 1
                focus (refine Or.inl ⟨by rfl, ?_⟩; intro wq hSw; obtain ⟨s0, s1, s2, s3⟩ := hSw; go_simp; try with_reducible rfl)
                try simp only [Act.put, List.setIfInBounds_toArray, List.set_cons_zero, List.set_cons_succ]
                refine wpAnyH_ready (rs := [12]) (by kernel_rfl) (by simp) ?_
                refine AllReadyH.cons rfl (fun KS hKS => ?_) AllReadyH.nil
                obtain ⟨⟨z0, z1, z2, z3⟩, z4, z5, z6⟩ := HZm.out.cells
                have zf := HZm.out.fro
                have z7 := zf 0
                have z8 := zf 1
                have zne := HNEQ.out
                go_simp
                refine hKS.out _ _ (by refine ⟨?_, ?_, ?_, ?_⟩ <;> simp [World.cell?_setCell_far, zne, Ne.symm zne, HKm.out.box.c0, HKm.out.box.c1, HKm.out.box.c2, HKm.out.box.c3]) (fun hHeld => ?_)
                clear hKS z0 z1 z2 z3 z4 z5 z6 z7 z8 zf zne
                try simp only [Act.put, List.setIfInBounds_toArray, List.set_cons_zero, List.set_cons_succ]
                refine wpAnyH_take (i := 13) (oi := { dst := some _, op := _, type := _, pos := _, after := _, guard := _ }) (v := ?_) rfl (by kernel_rfl) (by kernel_rfl) (by kernel_rfl) (fun _ _ _ h => h) ?_ (by with_reducible assumption) ?_
                rotate_left 1
                focus (refine Or.inl ⟨by rfl, ?_⟩; intro wq hSw; obtain ⟨s0, s1, s2, s3⟩ := hSw; go_simp; try with_reducible rfl)
                try simp only [Act.put, List.setIfInBounds_toArray, List.set_cons_zero, List.set_cons_succ]
                refine wpAnyH_done (by kernel_rfl) ?_ _
                go_wp2_with fail
                go_meet
                have HZP := Lib.hid (HZm.out.put1 HOm.out HNE.out true 1 N)
                have HLP := Lib.hid (low_put4 HLm.out HZm.out.lo (.bool true) (.int .i64 1) (.int .i64 N) (.slice ax m2 cx))
                exact ⟨_, ax, cx, rfl, rfl, HLP, HZP⟩
            case rest =>
              obtain ⟨kd, ad, cd, rfl, rfl, HLD, HD⟩ := hcut
              obtain ⟨wx2, rfl⟩ : ∃ x, x = wc := ⟨_, rfl⟩
              replace HK := Lib.hid (HK.out.below HLD.out)
              replace HB := Lib.hid (HB.out.below HLD.out)
              replace HL := Lib.hid (low_after HL.out HLD.out)
              have HDB := Lib.hid (HD.out.box.lt)
              clear HLD
              have hII : (I != I) = false := by simp
              obtain ⟨⟨c0, c1, c2, c3⟩, c4, c5, c6⟩ := HB.out.cells
              obtain ⟨⟨d0, d1, d2, d3⟩, d4, d5, d6⟩ := HD.out.cells
              go_wp2_with fail
              refine (sameLink_yes _ _ ab ad m2 cb cd true 1 N S HB.out.own.isN HD.out.own.isN (by omega) (Nat.le_refl _)).mono ?_
              rintro e w6 ⟨rfl, hb⟩
              replace HK := Lib.hid (HK.out.below hb)
              replace HB := Lib.hid (HB.out.below hb)
              replace HL := Lib.hid (low_after HL.out hb)
              clear hb HD HDB hII c0 c1 c2 c3 c4 c5 c6 d0 d1 d2 d3 d4 d5 d6
              have HKP := Lib.hid (HK.out.put1 (HB.out.own.base HB1.out) (fun e => by have := (World.ownsRow.lt HB.out.own _ e).1; have := HB3.out; omega) true 1 N)
              have HLP := Lib.hid (low_put4 HL.out HK.out.lo (.bool true) (.int .i64 1) (.int .i64 N) (.slice ab m2 cb))
              obtain ⟨⟨c0, c1, c2, c3⟩, c4, c5, c6⟩ := HB.out.cells
              obtain ⟨⟨k0, k1, k2, k3⟩, k4, k5, k6⟩ := HK.out.cells
              have kf := HK.out.fro
              have k7 := kf 0
              have k8 := kf 1
              clear kf
              by_cases hz : I = 0
              · have hb0 : decide (0 < I) = false := by simp; omega
                have HSUM := Lib.hid (show (u : Int) + (S.length : Int) = N by rw [HS.out, ansL_zero (by rw [← HI2.out]; exact hz)]; exact HUN.out)
                clear hz
                go_wp2_with fail
                go_roundw
                case rel => exact ⟨q + 1, u, ab, m2, cb, S, by have := HQ40.out; omega, by rw [HPQ.out]; go_num, by go_num, HM2, HSUM, HOK2, HKP, HLP⟩
                case measure => have := HQ40.out; have := HPQ.out; simp [intOf]; omega
              · obtain ⟨h1, h2, h3⟩ := ans_told (up := true) (ep := 1) (sq := N) (l := l) (e := 1) (seq := s) (by rw [← HI2.out]; exact hz)
                rw [← HS.out] at h2
                rw [← HI2.out] at h3
                have hb0 : decide (0 < I) = true := by simp; omega
                have HSUM := Lib.hid (show ((u + 1 : Nat) : Int) + (S.length : Int) = N by have := HUN.out; omega)
                have hu : (u : Int) ≤ 8 := by have := HUN.out; omega
                clear hz h1 h2 h3
                go_wp2_with fail
                go_roundw
                case rel => exact ⟨q + 1, u + 1, ab, m2, cb, S, by have := HQ40.out; omega, by rw [HPQ.out]; go_num, by go_num, HM2, HSUM, HOK2, HKP, HLP⟩
                case measure => have := HQ40.out; have := HPQ.out; simp [intOf]; omega
        · obtain rfl : q = 40 := by omega
          obtain ⟨⟨k0, k1, k2, k3⟩, k4, k5, k6⟩ := HK.out.cells
          have hsum : ((u : Int) + (m : Int) == N) = true := by have := HUN.out; have := HML.out; simp; omega
          have hu : (u : Int) ≤ 8 := by have := HUN.out; omega
          have hml : (m : Int) ≤ 8 := by have := HUN.out; have := HML.out; omega
          have hws : IntKind.i64.wrap ((u : Int) + (m : Int)) = (u : Int) + (m : Int) := IntWalk.i64_in _ (by omega)
          clear hlt hq
          go_wp2_with fail
          go_ret
          exact ⟨rfl, HL.out⟩
  end Go.Proofs.Ytjfhdelphfgojaa.Lnk
