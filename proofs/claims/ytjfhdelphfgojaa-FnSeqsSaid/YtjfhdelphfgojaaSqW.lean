/-
  The walk of the law FnSeqs.
-/
import Derived.Test.YtjfhdelphfgojaaTwW
import Derived.Test.YtjfhdelphfgojaaRgk
import Derived.Deep.DeepCutAuto
import Derived.Deep.RegionHeld3
namespace Go.Proofs.Ytjfhdelphfgojaa.Lnk
open Go.RowKit Go.Proofs.Ytjfhdelphfgojaa.Kit Go.Proofs.Ytjfhdelphfgojaa.Draw
set_option linter.unusedVariables false
set_option linter.unusedSimpArgs false

theorem fresh_ok (ep : Int) (h0 : 0 ≤ ep) (h1 : ep ≤ 60000) : LOk true ep 0 [] := ⟨h0, h1, by omega, by omega, by simp, fun _ => rfl, List.Pairwise.nil, fun t ht => by cases ht⟩
/-- what holds ahead of round j: the numbers up to c are given away -/
structure SeqI (E c : Int) (j : Nat) (l : List Y) : Prop where
  ok : LOk true E c l
  ids : ∀ t ∈ l, t.2.1 ≤ (j : Int)
  len : (l.length : Int) ≤ c
  lo : (j : Int) ≤ c ∨ 8 ≤ c
  hi : c ≤ (j : Int)
theorem SeqI.yes {E c z : Int} {j : Nat} {l : List Y} (h : SeqI E c j l) (hj : j < 30) (hl : l.length < 8) (hz : 0 ≤ z ∧ z < 256) : lauB true E c l ((j : Int) + 1) z = true ∧ SeqI E (c + 1) (j + 1) (l ++ [(c + 1, (j : Int) + 1, z)]) := by
  have hb : lauB true E c l ((j : Int) + 1) z = true := lau_can h.ok rfl (by have := h.hi; omega) hl (by omega) (by omega) (fun t ht e => by have := h.ids t ht; omega)
  refine ⟨hb, (lau_yes hb).2, ?_, ?_, ?_, ?_⟩
  · intro t ht
    rcases List.mem_append.1 ht with ht | ht
    · have := h.ids t ht; omega
    · simp only [List.mem_singleton] at ht
      subst ht
      show (j : Int) + 1 ≤ _
      omega
  · have := h.len; simp; omega
  · have := h.lo; omega
  · have := h.hi; omega
theorem SeqI.no {E c z : Int} {j : Nat} {l : List Y} (h : SeqI E c j l) (hl : 8 ≤ l.length) : lauB true E c l ((j : Int) + 1) z = false ∧ SeqI E c (j + 1) l :=
  ⟨lau_full hl, h.ok, fun t ht => by have := h.ids t ht; omega, h.len, .inr (by have := h.len; omega), by have := h.hi; omega⟩
theorem SeqI.ans {E c e s : Int} {j : Nat} {l : List Y} (h : SeqI E c j l) : SeqI E c j (ansL true E c l e s) :=
  ⟨ansL_ok h.ok, fun t ht => h.ids t (ansL_mem t ht), by have := ansL_len true E c l e s; have := h.len; omega, h.lo, h.hi⟩

set_option maxRecDepth 100000 in
set_option maxHeartbeats 4000000 in
theorem fnSeqs_walk (w : World) (a0 : Option Addr) (len0 cap0 : Nat) (zs : List Int) (hrow : IsRow .u8 w a0 len0 cap0 zs) :
    Calls Try.prog 7 #[.slice a0 len0 cap0] w fun e w' => e = .returned (.bool true) ∧ Below w.heap.size w w' := by
  obtain ⟨cf, hcf⟩ : ∃ cf : Nat → Int, CodeIs w.heap.size w a0 len0 cap0 cf := ⟨_, hrow.codeIs⟩
  have hcode := hcf
  have hle := hcode.le
  have HC := Lib.hid hcode
  have HLE := Lib.hid hle
  clear hrow hcode hcf hle
  go_enter Try.func7, Try.ntmps7
  by_cases hbig : (1048576 : Int) < (len0 : Int)
  · go_wp2_with fail
    refine (big_yes _ a0 len0 cap0 HLE.out hbig).mono ?_
    rintro e w' ⟨rfl, rfl⟩
    go_wp2_with fail
    go_ret
    exact ⟨rfl, Below.refl _ _⟩
  go_wp2_with fail
  refine (big_no _ a0 len0 cap0 HLE.out (by omega)).mono ?_
  rintro e w' ⟨rfl, rfl⟩
  clear hbig
  obtain ⟨z0, hz0⟩ : ∃ z, z = atF cf len0 0 := ⟨_, rfl⟩
  have hzb := atF_bd HC.out 0
  rw [← hz0] at hzb
  have HZ0 := Lib.hid hz0
  clear hz0
  go_wp2_with fail
  refine (at_int w w.heap.size a0 len0 cap0 cf HC.out 0 (by omega) (by omega) z0 HZ0.out.symm).mono ?_
  rintro e w2 ⟨⟨rfl, _, _⟩, rfl⟩
  go_wp2_with fail
  refine (join_any w none 0 0 false z0 0 [] (YIs.nil _ _ _) (by omega)).mono ?_
  rintro e w1 ⟨⟨a1, cap1, ai1, ci1, rfl, ho, hi⟩, hb⟩
  have hje := joinE z0 hzb.1 (by omega)
  rw [hje.1]
  rw [hje.2.1]
  rw [hje.2.2.1]
  rw [hje.2.2.2] at ho ⊢
  rw [List.length_nil] at ho ⊢
  clear hje
  obtain ⟨mi, hmi⟩ : ∃ m, m = (joI false z0 0 []).length := ⟨_, rfl⟩
  rw [← hmi] at hi ⊢
  obtain ⟨E, hE⟩ : ∃ E, E = z0 + 1 := ⟨_, rfl⟩
  rw [← hE]
  have hE0 : 0 ≤ E ∧ E ≤ 60000 := by omega
  have HK := Lib.hid (H4.new ho hb.size true E 0)
  have HL := Lib.hid (low_alloc (Below.refl w.heap.size w |>.trans hb) (.cells #[.bool true, .int .i64 E, .int .i64 0, .slice a1 0 cap1] 26))
  clear ho hi hb hmi hE
  go_wp2_with fail
  obtain ⟨b3, hb3⟩ : ∃ b, b = w1.heap.size := ⟨_, rfl⟩
  rw [← hb3] at HK
  rw [← hb3]
  clear hb3 hzb HZ0
  go_loopw [5, 6] (fun n i wr => ∃ (j : Nat) (c : Int) (a : Option Addr) (m cap : Nat) (l : List Y), j ≤ 30 ∧ n = .int .i64 c ∧ i = .int .i64 ((j : Int) + 1) ∧ Hid (m = l.length) ∧ Hid (SeqI E c j l) ∧ Hid (H4 wr b3 w.heap.size true E c (.slice a m cap) l) ∧ Hid (Below w.heap.size w wr)) (fun _ i _ => (31 - intOf i).toNat)
  case atStart => exact ⟨0, 0, a1, 0, cap1, [], by omega, rfl, by go_num, Lib.hid rfl, Lib.hid ⟨fresh_ok E hE0.1 hE0.2, (fun t ht => by cases ht), by simp, .inl (by simp), by simp⟩, HK, HL⟩
  case round =>
    clear HK HL
    obtain ⟨j, c, a, m, cap, l, hj, rfl, rfl, HML, HI, HK, HL⟩ := hrel
    by_cases hlt : j < 30
    · have HJ30 := Lib.hid hlt
      have hml : m ≤ 8 := by have := HI.out.ok.len; have := HML.out; omega
      have hc0 := HI.out.ok.s0
      have hc1 := HI.out.hi
      obtain ⟨i, hi⟩ : ∃ i : Int, i = (j : Int) + 1 := ⟨_, rfl⟩
      rw [← hi]
      obtain ⟨p, hp⟩ : ∃ p : Int, p = i + 1 := ⟨_, rfl⟩
      have HPQ := Lib.hid (show p = ((j + 1 : Nat) : Int) + 1 by omega)
      obtain ⟨z, hz⟩ : ∃ z, z = atF cf len0 i.toNat := ⟨_, rfl⟩
      have hzb := atF_bd HC.out i.toNat
      rw [← hz] at hzb
      have HZ := Lib.hid hz.symm
      obtain ⟨y, hy⟩ : ∃ y, y = atF cf len0 p.toNat := ⟨_, rfl⟩
      have hyb := atF_bd HC.out p.toNat
      rw [← hy] at hyb
      have HY := Lib.hid hy.symm
      have hwp : IntKind.i64.wrap (i + 1) = p := by rw [hp]; exact IntWalk.i64_in _ (by omega)
      obtain ⟨r3, hr⟩ : ∃ r, r = y % 3 := ⟨_, rfl⟩
      have hmy : y.tmod 3 = r3 := by rw [hr]; exact Int.tmod_eq_emod_of_nonneg hyb.1
      have hwr : IntKind.i64.wrap r3 = r3 := IntWalk.i64_in _ (by omega)
      obtain ⟨S, hS⟩ : ∃ S, S = lauL true E c l i z := ⟨_, rfl⟩
      obtain ⟨m2, hm2⟩ : ∃ x, x = S.length := ⟨_, rfl⟩
      obtain ⟨Q, hQ⟩ : ∃ x, x = lauS true E c l i z := ⟨_, rfl⟩
      obtain ⟨I, hI⟩ : ∃ x, x = lauN true E c l i z := ⟨_, rfl⟩
      have HS := Lib.hid hS
      have HM2 := Lib.hid hm2
      have HQ2 := Lib.hid hQ
      have HI2 := Lib.hid hI
      have hm2l : m2 ≤ 9 := by rw [hm2, hS]; exact Nat.le_trans (lauL_len _ _ _ _ _ _) (by have := HML.out; omega)
      have hi30 : 1 ≤ i ∧ i ≤ 30 := by omega
      have hile : i ≤ 30 := by omega
      have hp30 : 1 ≤ p ∧ p ≤ 31 := by omega
      have HIJ := Lib.hid hi
      have HR := Lib.hid hzb
      clear hp hz hy hr hS hm2 hQ hI hyb hzb hi
      go_upto_region 8 with fail
      go_cut [7, 8] (fun s9 s10 wx => ∃ k ak ck, s9 = .pointer (some ⟨k, 0, none⟩) ∧ s10 = .int .i64 I ∧ Hid (Below wr.heap.size wr wx) ∧ Hid (H4 wx k wr.heap.size true E Q (.slice ak m2 ck) S))
      case first =>
        have HLd := Lib.hid (show Below wr.heap.size wr wr.drew from below_drew' (Below.refl _ _))
        have HKd := Lib.hid (HK.out.below HLd.out)
        refine wp_region_held_drew (S := fun w' => w'.cell? ⟨b3, 0, none⟩ = some (.bool true) ∧ w'.cell? ⟨b3, 1, none⟩ = some (.int .i64 E) ∧ w'.cell? ⟨b3, 2, none⟩ = some (.int .i64 c) ∧ w'.cell? ⟨b3, 3, none⟩ = some (.slice a m cap)) (by kernel_rfl) ⟨HKd.out.box.c0, HKd.out.box.c1, HKd.out.box.c2, HKd.out.box.c3⟩ (fun hHeld => ?_)
        obtain ⟨wd, hwd⟩ : ∃ x, x = wr.drew := ⟨_, rfl⟩
        rw [← hwd] at HLd HKd hHeld ⊢
        clear hwd
        refine wpAnyH_take (i := 0) (oi := { dst := some _, op := _, type := _, pos := _, after := _, guard := _ }) (v := ?_) rfl (by kernel_rfl) (by kernel_rfl) (by kernel_rfl) (fun _ _ _ h => h) ?_ (by with_reducible assumption) ?_
        rotate_left 1
        focus (refine Or.inl ⟨by rfl, ?_⟩; intro wq hSw; obtain ⟨s0, s1, s2, s3⟩ := hSw; go_simp; try with_reducible rfl)
        try simp only [Act.put, List.setIfInBounds_toArray, List.set_cons_zero, List.set_cons_succ]
        refine wpAnyH_take (i := 1) (oi := { dst := some _, op := _, type := _, pos := _, after := _, guard := _ }) (v := ?_) rfl (by kernel_rfl) (by kernel_rfl) (by kernel_rfl) (fun _ _ _ h => h) ?_ (by with_reducible assumption) ?_
        rotate_left 1
        focus (refine Or.inl ⟨by rfl, ?_⟩; intro wq hSw; obtain ⟨s0, s1, s2, s3⟩ := hSw; go_simp; try with_reducible rfl)
        try simp only [Act.put, List.setIfInBounds_toArray, List.set_cons_zero, List.set_cons_succ]
        refine wpAnyH_take (i := 2) (oi := { dst := some _, op := _, type := _, pos := _, after := _, guard := _ }) (v := ?_) rfl (by kernel_rfl) (by kernel_rfl) (by kernel_rfl) (fun _ _ _ h => h) ?_ (by with_reducible assumption) ?_
        rotate_left 1
        focus (refine Or.inl ⟨by rfl, ?_⟩; intro wq hSw; obtain ⟨s0, s1, s2, s3⟩ := hSw; go_simp; try with_reducible rfl)
        try simp only [Act.put, List.setIfInBounds_toArray, List.set_cons_zero, List.set_cons_succ]
        refine wpAnyH_take (i := 3) (oi := { dst := some _, op := _, type := _, pos := _, after := _, guard := _ }) (v := ?_) rfl (by kernel_rfl) (by kernel_rfl) (by kernel_rfl) (fun _ _ _ h => h) ?_ (by with_reducible assumption) ?_
        rotate_left 1
        focus (refine Or.inl ⟨by rfl, ?_⟩; intro wq hSw; obtain ⟨s0, s1, s2, s3⟩ := hSw; go_simp; try with_reducible rfl)
        try simp only [Act.put, List.setIfInBounds_toArray, List.set_cons_zero, List.set_cons_succ]
        refine wpAnyH_ready (rs := [4, 9]) (by kernel_rfl) (by simp) ?_
        refine AllReadyH.cons rfl (fun KT hKT => ?_) ?_
        · go_simp
          refine (at_int _ w.heap.size a0 len0 cap0 cf (HC.out.below (low_after HL.out HLd.out)) i (by omega) (by omega) z HZ.out).mono ?_
          rintro e w5 ⟨⟨rfl, _, _⟩, rfl⟩
          dsimp only
          refine hKT.out _ _ ⟨HKd.out.box.c0, HKd.out.box.c1, HKd.out.box.c2, HKd.out.box.c3⟩ (fun hHeld => ?_)
          clear hKT
          try simp only [Act.put, List.setIfInBounds_toArray, List.set_cons_zero, List.set_cons_succ]
          refine wpAnyH_ready (rs := [5, 9]) (by kernel_rfl) (by simp) ?_
          refine AllReadyH.cons rfl (fun KM hKM => ?_) ?_
          · go_simp
            refine (launch_any _ a m cap true E c l i z HKd.out.own.isN (by omega) HKd.out.own.lecap).mono ?_
            rintro e wM ⟨⟨ax, cx, rfl, ho⟩, hb⟩
            rw [← HS.out, ← HM2.out] at ho ⊢
            rw [← HQ2.out]
            rw [← HI2.out]
            have HKn := Lib.hid (HKd.out.below hb)
            have HLn := Lib.hid (low_after HLd.out hb)
            have HOn := Lib.hid (ho.base HLd.out.size)
            clear ho hb
            dsimp only
            refine hKM.out _ _ ⟨HKn.out.box.c0, HKn.out.box.c1, HKn.out.box.c2, HKn.out.box.c3⟩ (fun hHeld => ?_)
            clear hKM
            try simp only [Act.put, List.setIfInBounds_toArray, List.set_cons_zero, List.set_cons_succ]
            refine wpAnyH_take (i := 6) (oi := { dst := some _, op := _, type := _, pos := _, after := _, guard := _ }) (v := ?_) rfl (by kernel_rfl) (by kernel_rfl) (by kernel_rfl) (fun _ _ _ h => h) ?_ (by with_reducible assumption) ?_
            rotate_left 1
            focus (refine Or.inl ⟨by rfl, ?_⟩; intro wq hSw; obtain ⟨s0, s1, s2, s3⟩ := hSw; go_simp; try with_reducible rfl)
            try simp only [Act.put, List.setIfInBounds_toArray, List.set_cons_zero, List.set_cons_succ]
            refine wpAnyH_take (i := 7) (oi := { dst := some _, op := _, type := _, pos := _, after := _, guard := _ }) (v := ?_) rfl (by kernel_rfl) (by kernel_rfl) (by kernel_rfl) (fun _ _ _ h => h) ?_ (by with_reducible assumption) ?_
            rotate_left 1
            focus (refine Or.inl ⟨by rfl, ?_⟩; intro wq hSw; obtain ⟨s0, s1, s2, s3⟩ := hSw; go_simp; try with_reducible rfl)
            try simp only [Act.put, List.setIfInBounds_toArray, List.set_cons_zero, List.set_cons_succ]
            refine wpAnyH_take (i := 8) (oi := { dst := some _, op := _, type := _, pos := _, after := _, guard := _ }) (v := ?_) rfl (by kernel_rfl) (by kernel_rfl) (by kernel_rfl) (fun _ _ _ h => h) ?_ (by with_reducible assumption) ?_
            rotate_left 1
            focus (refine Or.inl ⟨by rfl, ?_⟩; intro wq hSw; obtain ⟨s0, s1, s2, s3⟩ := hSw; go_simp; try with_reducible rfl)
            try simp only [Act.put, List.setIfInBounds_toArray, List.set_cons_zero, List.set_cons_succ]
            refine wpAnyH_ready (rs := [9]) (by kernel_rfl) (by simp) ?_
            refine AllReadyH.cons rfl (fun KA hKA => ?_) AllReadyH.nil
            go_simp
            have HBz := Lib.hid (bOne wM (.cells #[.bool false, .int .i64 0, .int .i64 0, .slice none 0 0] 26))
            have HKm := Lib.hid (HKn.out.below HBz.out)
            refine hKA.out _ _ ⟨HKm.out.box.c0, HKm.out.box.c1, HKm.out.box.c2, HKm.out.box.c3⟩ (fun hHeld => ?_)
            clear hKA
            try simp only [Act.put, List.setIfInBounds_toArray, List.set_cons_zero, List.set_cons_succ]
            refine wpAnyH_ready (rs := [10]) (by kernel_rfl) (by simp) ?_
            refine AllReadyH.cons rfl (fun KS hKS => ?_) AllReadyH.nil
            go_simp
            have HBy := Lib.hid (bOne wM (.cells #[.bool true, .int .i64 E, .int .i64 Q, .slice ax m2 cx] 26))
            have HKy := Lib.hid (HKn.out.below HBy.out)
            have HZP := Lib.hid (H4.new HOn.out HLn.out.size true E Q)
            have HLP := Lib.hid (low_after HLn.out HBy.out)
            refine hKS.out _ _ ⟨HKy.out.box.c0, HKy.out.box.c1, HKy.out.box.c2, HKy.out.box.c3⟩ (fun hHeld => ?_)
            clear hKS
            try simp only [Act.put, List.setIfInBounds_toArray, List.set_cons_zero, List.set_cons_succ]
            refine wpAnyH_take (i := 11) (oi := { dst := some _, op := _, type := _, pos := _, after := _, guard := _ }) (v := ?_) rfl (by kernel_rfl) (by kernel_rfl) (by kernel_rfl) (fun _ _ _ h => h) ?_ (by with_reducible assumption) ?_
            rotate_left 1
            focus (refine Or.inl ⟨by rfl, ?_⟩; intro wq hSw; obtain ⟨s0, s1, s2, s3⟩ := hSw; go_simp; try with_reducible rfl)
            try simp only [Act.put, List.setIfInBounds_toArray, List.set_cons_zero, List.set_cons_succ]
            refine wpAnyH_done (by kernel_rfl) ?_ _
            go_wp2_with fail
            go_meet
            exact ⟨_, ax, cx, rfl, rfl, HLP, HZP⟩
          · refine AllReadyH.cons rfl (fun KA hKA => ?_) AllReadyH.nil
            go_simp
            have HBz := Lib.hid (bOne wd (.cells #[.bool false, .int .i64 0, .int .i64 0, .slice none 0 0] 26))
            have HZ0 := Lib.hid (H4.new (YOwn.nil wr.heap.size wd 40) HLd.out.size false 0 0)
            have HKz := Lib.hid (HKd.out.below HBz.out)
            have HLz := Lib.hid (low_after HLd.out HBz.out)
            have HNEQ := Lib.hid (show b3 ≠ wd.heap.size from Nat.ne_of_lt HKd.out.box.lt)
            refine hKA.out _ _ ⟨HKz.out.box.c0, HKz.out.box.c1, HKz.out.box.c2, HKz.out.box.c3⟩ (fun hHeld => ?_)
            clear hKA
            try simp only [Act.put, List.setIfInBounds_toArray, List.set_cons_zero, List.set_cons_succ]
            refine wpAnyH_ready (rs := [5]) (by kernel_rfl) (by simp) ?_
            refine AllReadyH.cons rfl (fun KM hKM => ?_) AllReadyH.nil
            go_simp
            refine (launch_any _ a m cap true E c l i z HKz.out.own.isN (by omega) HKz.out.own.lecap).mono ?_
            rintro e wM ⟨⟨ax, cx, rfl, ho⟩, hb⟩
            rw [← HS.out, ← HM2.out] at ho ⊢
            rw [← HQ2.out]
            rw [← HI2.out]
            have HZm := Lib.hid (HZ0.out.below hb)
            have HKm := Lib.hid (HKz.out.below hb)
            have HLm := Lib.hid (low_after HLz.out hb)
            have HOm := Lib.hid (ho.base HLz.out.size)
            have HNE := Lib.hid (show (Value.slice ax m2 cx).ownBlock ≠ some wd.heap.size from fun e => by have := (World.ownsRow.lt ho _ e).1; simp at this; omega)
            clear ho hb
            dsimp only
            refine hKM.out _ _ ⟨HKm.out.box.c0, HKm.out.box.c1, HKm.out.box.c2, HKm.out.box.c3⟩ (fun hHeld => ?_)
            clear hKM
            try simp only [Act.put, List.setIfInBounds_toArray, List.set_cons_zero, List.set_cons_succ]
            refine wpAnyH_take (i := 6) (oi := { dst := some _, op := _, type := _, pos := _, after := _, guard := _ }) (v := ?_) rfl (by kernel_rfl) (by kernel_rfl) (by kernel_rfl) (fun _ _ _ h => h) ?_ (by with_reducible assumption) ?_
            rotate_left 1
            focus (refine Or.inl ⟨by rfl, ?_⟩; intro wq hSw; obtain ⟨s0, s1, s2, s3⟩ := hSw; go_simp; try with_reducible rfl)
            try simp only [Act.put, List.setIfInBounds_toArray, List.set_cons_zero, List.set_cons_succ]
            refine wpAnyH_take (i := 7) (oi := { dst := some _, op := _, type := _, pos := _, after := _, guard := _ }) (v := ?_) rfl (by kernel_rfl) (by kernel_rfl) (by kernel_rfl) (fun _ _ _ h => h) ?_ (by with_reducible assumption) ?_
            rotate_left 1
            focus (refine Or.inl ⟨by rfl, ?_⟩; intro wq hSw; obtain ⟨s0, s1, s2, s3⟩ := hSw; go_simp; try with_reducible rfl)
            try simp only [Act.put, List.setIfInBounds_toArray, List.set_cons_zero, List.set_cons_succ]
            refine wpAnyH_take (i := 8) (oi := { dst := some _, op := _, type := _, pos := _, after := _, guard := _ }) (v := ?_) rfl (by kernel_rfl) (by kernel_rfl) (by kernel_rfl) (fun _ _ _ h => h) ?_ (by with_reducible assumption) ?_
            rotate_left 1
            focus (refine Or.inl ⟨by rfl, ?_⟩; intro wq hSw; obtain ⟨s0, s1, s2, s3⟩ := hSw; go_simp; try with_reducible rfl)
            try simp only [Act.put, List.setIfInBounds_toArray, List.set_cons_zero, List.set_cons_succ]
            refine wpAnyH_ready (rs := [10]) (by kernel_rfl) (by simp) ?_
            refine AllReadyH.cons rfl (fun KS hKS => ?_) AllReadyH.nil
            obtain ⟨⟨z0, z1, z2, z3⟩, z4, z5, z6⟩ := HZm.out.cells
            have zf := HZm.out.fro
            have z7 := zf 0
            have z8 := zf 1
            have zne := HNEQ.out
            go_simp
            refine hKS.out _ _ (by refine ⟨?_, ?_, ?_, ?_⟩ <;> simp [World.cell?_setCell_far, zne, Ne.symm zne, HKm.out.box.c0, HKm.out.box.c1, HKm.out.box.c2, HKm.out.box.c3]) (fun hHeld => ?_)
            clear hKS z0 z1 z2 z3 z4 z5 z6 z7 z8 zf zne
            try simp only [Act.put, List.setIfInBounds_toArray, List.set_cons_zero, List.set_cons_succ]
            refine wpAnyH_take (i := 11) (oi := { dst := some _, op := _, type := _, pos := _, after := _, guard := _ }) (v := ?_) rfl (by kernel_rfl) (by kernel_rfl) (by kernel_rfl) (fun _ _ _ h => h) ?_ (by with_reducible assumption) ?_
            rotate_left 1
            focus (refine Or.inl ⟨by rfl, ?_⟩; intro wq hSw; obtain ⟨s0, s1, s2, s3⟩ := hSw; go_simp; try with_reducible rfl)
            try simp only [Act.put, List.setIfInBounds_toArray, List.set_cons_zero, List.set_cons_succ]
            refine wpAnyH_done (by kernel_rfl) ?_ _
            go_wp2_with fail
            go_meet
            have HZP := Lib.hid (HZm.out.put1 HOm.out HNE.out true E Q)
            have HLP := Lib.hid (low_put4 HLm.out HZm.out.lo (.bool true) (.int .i64 E) (.int .i64 Q) (.slice ax m2 cx))
            exact ⟨_, ax, cx, rfl, rfl, HLP, HZP⟩
        · refine AllReadyH.cons rfl (fun KA hKA => ?_) AllReadyH.nil
          go_simp
          have HBz := Lib.hid (bOne wd (.cells #[.bool false, .int .i64 0, .int .i64 0, .slice none 0 0] 26))
          have HZ0 := Lib.hid (H4.new (YOwn.nil wr.heap.size wd 40) HLd.out.size false 0 0)
          have HKz := Lib.hid (HKd.out.below HBz.out)
          have HLz := Lib.hid (low_after HLd.out HBz.out)
          have HNEQ := Lib.hid (show b3 ≠ wd.heap.size from Nat.ne_of_lt HKd.out.box.lt)
          refine hKA.out _ _ ⟨HKz.out.box.c0, HKz.out.box.c1, HKz.out.box.c2, HKz.out.box.c3⟩ (fun hHeld => ?_)
          clear hKA
          try simp only [Act.put, List.setIfInBounds_toArray, List.set_cons_zero, List.set_cons_succ]
          refine wpAnyH_ready (rs := [4]) (by kernel_rfl) (by simp) ?_
          refine AllReadyH.cons rfl (fun KT hKT => ?_) AllReadyH.nil
          go_simp
          refine (at_int _ w.heap.size a0 len0 cap0 cf (HC.out.below (low_after HL.out HLz.out)) i (by omega) (by omega) z HZ.out).mono ?_
          rintro e w5 ⟨⟨rfl, _, _⟩, rfl⟩
          dsimp only
          refine hKT.out _ _ ⟨HKz.out.box.c0, HKz.out.box.c1, HKz.out.box.c2, HKz.out.box.c3⟩ (fun hHeld => ?_)
          clear hKT
          try simp only [Act.put, List.setIfInBounds_toArray, List.set_cons_zero, List.set_cons_succ]
          refine wpAnyH_ready (rs := [5]) (by kernel_rfl) (by simp) ?_
          refine AllReadyH.cons rfl (fun KM hKM => ?_) AllReadyH.nil
          go_simp
          refine (launch_any _ a m cap true E c l i z HKz.out.own.isN (by omega) HKz.out.own.lecap).mono ?_
          rintro e wM ⟨⟨ax, cx, rfl, ho⟩, hb⟩
          rw [← HS.out, ← HM2.out] at ho ⊢
          rw [← HQ2.out]
          rw [← HI2.out]
          have HZm := Lib.hid (HZ0.out.below hb)
          have HKm := Lib.hid (HKz.out.below hb)
          have HLm := Lib.hid (low_after HLz.out hb)
          have HOm := Lib.hid (ho.base HLz.out.size)
          have HNE := Lib.hid (show (Value.slice ax m2 cx).ownBlock ≠ some wd.heap.size from fun e => by have := (World.ownsRow.lt ho _ e).1; simp at this; omega)
          clear ho hb
          dsimp only
          refine hKM.out _ _ ⟨HKm.out.box.c0, HKm.out.box.c1, HKm.out.box.c2, HKm.out.box.c3⟩ (fun hHeld => ?_)
          clear hKM
          try simp only [Act.put, List.setIfInBounds_toArray, List.set_cons_zero, List.set_cons_succ]
          refine wpAnyH_take (i := 6) (oi := { dst := some _, op := _, type := _, pos := _, after := _, guard := _ }) (v := ?_) rfl (by kernel_rfl) (by kernel_rfl) (by kernel_rfl) (fun _ _ _ h => h) ?_ (by with_reducible assumption) ?_
          rotate_left 1
          focus (refine Or.inl ⟨by rfl, ?_⟩; intro wq hSw; obtain ⟨s0, s1, s2, s3⟩ := hSw; go_simp; try with_reducible rfl)
          try simp only [Act.put, List.setIfInBounds_toArray, List.set_cons_zero, List.set_cons_succ]
          refine wpAnyH_take (i := 7) (oi := { dst := some _, op := _, type := _, pos := _, after := _, guard := _ }) (v := ?_) rfl (by kernel_rfl) (by kernel_rfl) (by kernel_rfl) (fun _ _ _ h => h) ?_ (by with_reducible assumption) ?_
          rotate_left 1
          focus (refine Or.inl ⟨by rfl, ?_⟩; intro wq hSw; obtain ⟨s0, s1, s2, s3⟩ := hSw; go_simp; try with_reducible rfl)
          try simp only [Act.put, List.setIfInBounds_toArray, List.set_cons_zero, List.set_cons_succ]
          refine wpAnyH_take (i := 8) (oi := { dst := some _, op := _, type := _, pos := _, after := _, guard := _ }) (v := ?_) rfl (by kernel_rfl) (by kernel_rfl) (by kernel_rfl) (fun _ _ _ h => h) ?_ (by with_reducible assumption) ?_
          rotate_left 1
          focus (refine Or.inl ⟨by rfl, ?_⟩; intro wq hSw; obtain ⟨s0, s1, s2, s3⟩ := hSw; go_simp; try with_reducible rfl)
          try simp only [Act.put, List.setIfInBounds_toArray, List.set_cons_zero, List.set_cons_succ]
          refine wpAnyH_ready (rs := [10]) (by kernel_rfl) (by simp) ?_
          refine AllReadyH.cons rfl (fun KS hKS => ?_) AllReadyH.nil
          obtain ⟨⟨z0, z1, z2, z3⟩, z4, z5, z6⟩ := HZm.out.cells
          have zf := HZm.out.fro
          have z7 := zf 0
          have z8 := zf 1
          have zne := HNEQ.out
          go_simp
          refine hKS.out _ _ (by refine ⟨?_, ?_, ?_, ?_⟩ <;> simp [World.cell?_setCell_far, zne, Ne.symm zne, HKm.out.box.c0, HKm.out.box.c1, HKm.out.box.c2, HKm.out.box.c3]) (fun hHeld => ?_)
          clear hKS z0 z1 z2 z3 z4 z5 z6 z7 z8 zf zne
          try simp only [Act.put, List.setIfInBounds_toArray, List.set_cons_zero, List.set_cons_succ]
          refine wpAnyH_take (i := 11) (oi := { dst := some _, op := _, type := _, pos := _, after := _, guard := _ }) (v := ?_) rfl (by kernel_rfl) (by kernel_rfl) (by kernel_rfl) (fun _ _ _ h => h) ?_ (by with_reducible assumption) ?_
          rotate_left 1
          focus (refine Or.inl ⟨by rfl, ?_⟩; intro wq hSw; obtain ⟨s0, s1, s2, s3⟩ := hSw; go_simp; try with_reducible rfl)
          try simp only [Act.put, List.setIfInBounds_toArray, List.set_cons_zero, List.set_cons_succ]
          refine wpAnyH_done (by kernel_rfl) ?_ _
          go_wp2_with fail
          go_meet
          have HZP := Lib.hid (HZm.out.put1 HOm.out HNE.out true E Q)
          have HLP := Lib.hid (low_put4 HLm.out HZm.out.lo (.bool true) (.int .i64 E) (.int .i64 Q) (.slice ax m2 cx))
          exact ⟨_, ax, cx, rfl, rfl, HLP, HZP⟩
      case rest =>
        obtain ⟨kb, ab, cb, rfl, rfl, HLB, HB⟩ := hcut
        obtain ⟨wx, rfl⟩ : ∃ x, x = wc := ⟨_, rfl⟩
        obtain ⟨B0, hB0⟩ : ∃ B, B = wr.heap.size := ⟨_, rfl⟩
        rw [← hB0] at HB
        have HB1 := Lib.hid (show w.heap.size ≤ B0 by rw [hB0]; exact HL.out.size)
        have HB3 := Lib.hid (show b3 < B0 by rw [hB0]; exact HK.out.box.lt)
        replace HK := Lib.hid (HK.out.below HLB.out)
        replace HL := Lib.hid (low_after HL.out HLB.out)
        clear hB0 HLB
        go_upto_region 9 with fail
        go_cut [9, 10] (fun s9 s10 wx2 => ∃ k ak ck, s9 = .pointer (some ⟨k, 0, none⟩) ∧ s10 = .int .i64 I ∧ Hid (Below wx.heap.size wx wx2) ∧ Hid (H4 wx2 k wx.heap.size true E Q (.slice ak m2 ck) S))
        case first =>
          have HLd := Lib.hid (show Below wx.heap.size wx wx.drew from below_drew' (Below.refl _ _))
          have HKd := Lib.hid (HK.out.below HLd.out)
          refine wp_region_held_drew (S := fun w' => w'.cell? ⟨b3, 0, none⟩ = some (.bool true) ∧ w'.cell? ⟨b3, 1, none⟩ = some (.int .i64 E) ∧ w'.cell? ⟨b3, 2, none⟩ = some (.int .i64 c) ∧ w'.cell? ⟨b3, 3, none⟩ = some (.slice a m cap)) (by kernel_rfl) ⟨HKd.out.box.c0, HKd.out.box.c1, HKd.out.box.c2, HKd.out.box.c3⟩ (fun hHeld => ?_)
          obtain ⟨wd, hwd⟩ : ∃ x, x = wx.drew := ⟨_, rfl⟩
          rw [← hwd] at HLd HKd hHeld ⊢
          clear hwd
          refine wpAnyH_take (i := 0) (oi := { dst := some _, op := _, type := _, pos := _, after := _, guard := _ }) (v := ?_) rfl (by kernel_rfl) (by kernel_rfl) (by kernel_rfl) (fun _ _ _ h => h) ?_ (by with_reducible assumption) ?_
          rotate_left 1
          focus (refine Or.inl ⟨by rfl, ?_⟩; intro wq hSw; obtain ⟨s0, s1, s2, s3⟩ := hSw; go_simp; try with_reducible rfl)
          try simp only [Act.put, List.setIfInBounds_toArray, List.set_cons_zero, List.set_cons_succ]
          refine wpAnyH_take (i := 1) (oi := { dst := some _, op := _, type := _, pos := _, after := _, guard := _ }) (v := ?_) rfl (by kernel_rfl) (by kernel_rfl) (by kernel_rfl) (fun _ _ _ h => h) ?_ (by with_reducible assumption) ?_
          rotate_left 1
          focus (refine Or.inl ⟨by rfl, ?_⟩; intro wq hSw; obtain ⟨s0, s1, s2, s3⟩ := hSw; go_simp; try with_reducible rfl)
          try simp only [Act.put, List.setIfInBounds_toArray, List.set_cons_zero, List.set_cons_succ]
          refine wpAnyH_take (i := 2) (oi := { dst := some _, op := _, type := _, pos := _, after := _, guard := _ }) (v := ?_) rfl (by kernel_rfl) (by kernel_rfl) (by kernel_rfl) (fun _ _ _ h => h) ?_ (by with_reducible assumption) ?_
          rotate_left 1
          focus (refine Or.inl ⟨by rfl, ?_⟩; intro wq hSw; obtain ⟨s0, s1, s2, s3⟩ := hSw; go_simp; try with_reducible rfl)
          try simp only [Act.put, List.setIfInBounds_toArray, List.set_cons_zero, List.set_cons_succ]
          refine wpAnyH_take (i := 3) (oi := { dst := some _, op := _, type := _, pos := _, after := _, guard := _ }) (v := ?_) rfl (by kernel_rfl) (by kernel_rfl) (by kernel_rfl) (fun _ _ _ h => h) ?_ (by with_reducible assumption) ?_
          rotate_left 1
          focus (refine Or.inl ⟨by rfl, ?_⟩; intro wq hSw; obtain ⟨s0, s1, s2, s3⟩ := hSw; go_simp; try with_reducible rfl)
          try simp only [Act.put, List.setIfInBounds_toArray, List.set_cons_zero, List.set_cons_succ]
          refine wpAnyH_ready (rs := [4, 9]) (by kernel_rfl) (by simp) ?_
          refine AllReadyH.cons rfl (fun KT hKT => ?_) ?_
          · go_simp
            refine (at_int _ w.heap.size a0 len0 cap0 cf (HC.out.below (low_after HL.out HLd.out)) i (by omega) (by omega) z HZ.out).mono ?_
            rintro e w5 ⟨⟨rfl, _, _⟩, rfl⟩
            dsimp only
            refine hKT.out _ _ ⟨HKd.out.box.c0, HKd.out.box.c1, HKd.out.box.c2, HKd.out.box.c3⟩ (fun hHeld => ?_)
            clear hKT
            try simp only [Act.put, List.setIfInBounds_toArray, List.set_cons_zero, List.set_cons_succ]
            refine wpAnyH_ready (rs := [5, 9]) (by kernel_rfl) (by simp) ?_
            refine AllReadyH.cons rfl (fun KM hKM => ?_) ?_
            · go_simp
              refine (specLaunch_any _ a m cap true E c l i z HKd.out.own.isN (by omega) HKd.out.own.nilcap).mono ?_
              rintro e wM ⟨⟨ax, cx, rfl, ho⟩, hb⟩
              rw [← HS.out, ← HM2.out] at ho ⊢
              rw [← HQ2.out]
              rw [← HI2.out]
              have HKn := Lib.hid (HKd.out.below hb)
              have HLn := Lib.hid (low_after HLd.out hb)
              have HOn := Lib.hid (ho.base HLd.out.size)
              clear ho hb
              dsimp only
              refine hKM.out _ _ ⟨HKn.out.box.c0, HKn.out.box.c1, HKn.out.box.c2, HKn.out.box.c3⟩ (fun hHeld => ?_)
              clear hKM
              try simp only [Act.put, List.setIfInBounds_toArray, List.set_cons_zero, List.set_cons_succ]
              refine wpAnyH_take (i := 6) (oi := { dst := some _, op := _, type := _, pos := _, after := _, guard := _ }) (v := ?_) rfl (by kernel_rfl) (by kernel_rfl) (by kernel_rfl) (fun _ _ _ h => h) ?_ (by with_reducible assumption) ?_
              rotate_left 1
              focus (refine Or.inl ⟨by rfl, ?_⟩; intro wq hSw; obtain ⟨s0, s1, s2, s3⟩ := hSw; go_simp; try with_reducible rfl)
              try simp only [Act.put, List.setIfInBounds_toArray, List.set_cons_zero, List.set_cons_succ]
              refine wpAnyH_take (i := 7) (oi := { dst := some _, op := _, type := _, pos := _, after := _, guard := _ }) (v := ?_) rfl (by kernel_rfl) (by kernel_rfl) (by kernel_rfl) (fun _ _ _ h => h) ?_ (by with_reducible assumption) ?_
              rotate_left 1
              focus (refine Or.inl ⟨by rfl, ?_⟩; intro wq hSw; obtain ⟨s0, s1, s2, s3⟩ := hSw; go_simp; try with_reducible rfl)
              try simp only [Act.put, List.setIfInBounds_toArray, List.set_cons_zero, List.set_cons_succ]
              refine wpAnyH_take (i := 8) (oi := { dst := some _, op := _, type := _, pos := _, after := _, guard := _ }) (v := ?_) rfl (by kernel_rfl) (by kernel_rfl) (by kernel_rfl) (fun _ _ _ h => h) ?_ (by with_reducible assumption) ?_
              rotate_left 1
              focus (refine Or.inl ⟨by rfl, ?_⟩; intro wq hSw; obtain ⟨s0, s1, s2, s3⟩ := hSw; go_simp; try with_reducible rfl)
              try simp only [Act.put, List.setIfInBounds_toArray, List.set_cons_zero, List.set_cons_succ]
              refine wpAnyH_ready (rs := [9]) (by kernel_rfl) (by simp) ?_
              refine AllReadyH.cons rfl (fun KA hKA => ?_) AllReadyH.nil
              go_simp
              have HBz := Lib.hid (bOne wM (.cells #[.bool false, .int .i64 0, .int .i64 0, .slice none 0 0] 26))
              have HKm := Lib.hid (HKn.out.below HBz.out)
              refine hKA.out _ _ ⟨HKm.out.box.c0, HKm.out.box.c1, HKm.out.box.c2, HKm.out.box.c3⟩ (fun hHeld => ?_)
              clear hKA
              try simp only [Act.put, List.setIfInBounds_toArray, List.set_cons_zero, List.set_cons_succ]
              refine wpAnyH_ready (rs := [10]) (by kernel_rfl) (by simp) ?_
              refine AllReadyH.cons rfl (fun KS hKS => ?_) AllReadyH.nil
              go_simp
              have HBy := Lib.hid (bOne wM (.cells #[.bool true, .int .i64 E, .int .i64 Q, .slice ax m2 cx] 26))
              have HKy := Lib.hid (HKn.out.below HBy.out)
              have HZP := Lib.hid (H4.new HOn.out HLn.out.size true E Q)
              have HLP := Lib.hid (low_after HLn.out HBy.out)
              refine hKS.out _ _ ⟨HKy.out.box.c0, HKy.out.box.c1, HKy.out.box.c2, HKy.out.box.c3⟩ (fun hHeld => ?_)
              clear hKS
              try simp only [Act.put, List.setIfInBounds_toArray, List.set_cons_zero, List.set_cons_succ]
              refine wpAnyH_take (i := 11) (oi := { dst := some _, op := _, type := _, pos := _, after := _, guard := _ }) (v := ?_) rfl (by kernel_rfl) (by kernel_rfl) (by kernel_rfl) (fun _ _ _ h => h) ?_ (by with_reducible assumption) ?_
              rotate_left 1
              focus (refine Or.inl ⟨by rfl, ?_⟩; intro wq hSw; obtain ⟨s0, s1, s2, s3⟩ := hSw; go_simp; try with_reducible rfl)
              try simp only [Act.put, List.setIfInBounds_toArray, List.set_cons_zero, List.set_cons_succ]
              refine wpAnyH_done (by kernel_rfl) ?_ _
              go_wp2_with fail
              go_meet
              exact ⟨_, ax, cx, rfl, rfl, HLP, HZP⟩
            · refine AllReadyH.cons rfl (fun KA hKA => ?_) AllReadyH.nil
              go_simp
              have HBz := Lib.hid (bOne wd (.cells #[.bool false, .int .i64 0, .int .i64 0, .slice none 0 0] 26))
              have HZ0 := Lib.hid (H4.new (YOwn.nil wx.heap.size wd 40) HLd.out.size false 0 0)
              have HKz := Lib.hid (HKd.out.below HBz.out)
              have HLz := Lib.hid (low_after HLd.out HBz.out)
              have HNEQ := Lib.hid (show b3 ≠ wd.heap.size from Nat.ne_of_lt HKd.out.box.lt)
              refine hKA.out _ _ ⟨HKz.out.box.c0, HKz.out.box.c1, HKz.out.box.c2, HKz.out.box.c3⟩ (fun hHeld => ?_)
              clear hKA
              try simp only [Act.put, List.setIfInBounds_toArray, List.set_cons_zero, List.set_cons_succ]
              refine wpAnyH_ready (rs := [5]) (by kernel_rfl) (by simp) ?_
              refine AllReadyH.cons rfl (fun KM hKM => ?_) AllReadyH.nil
              go_simp
              refine (specLaunch_any _ a m cap true E c l i z HKz.out.own.isN (by omega) HKz.out.own.nilcap).mono ?_
              rintro e wM ⟨⟨ax, cx, rfl, ho⟩, hb⟩
              rw [← HS.out, ← HM2.out] at ho ⊢
              rw [← HQ2.out]
              rw [← HI2.out]
              have HZm := Lib.hid (HZ0.out.below hb)
              have HKm := Lib.hid (HKz.out.below hb)
              have HLm := Lib.hid (low_after HLz.out hb)
              have HOm := Lib.hid (ho.base HLz.out.size)
              have HNE := Lib.hid (show (Value.slice ax m2 cx).ownBlock ≠ some wd.heap.size from fun e => by have := (World.ownsRow.lt ho _ e).1; simp at this; omega)
              clear ho hb
              dsimp only
              refine hKM.out _ _ ⟨HKm.out.box.c0, HKm.out.box.c1, HKm.out.box.c2, HKm.out.box.c3⟩ (fun hHeld => ?_)
              clear hKM
              try simp only [Act.put, List.setIfInBounds_toArray, List.set_cons_zero, List.set_cons_succ]
              refine wpAnyH_take (i := 6) (oi := { dst := some _, op := _, type := _, pos := _, after := _, guard := _ }) (v := ?_) rfl (by kernel_rfl) (by kernel_rfl) (by kernel_rfl) (fun _ _ _ h => h) ?_ (by with_reducible assumption) ?_
              rotate_left 1
              focus (refine Or.inl ⟨by rfl, ?_⟩; intro wq hSw; obtain ⟨s0, s1, s2, s3⟩ := hSw; go_simp; try with_reducible rfl)
              try simp only [Act.put, List.setIfInBounds_toArray, List.set_cons_zero, List.set_cons_succ]
              refine wpAnyH_take (i := 7) (oi := { dst := some _, op := _, type := _, pos := _, after := _, guard := _ }) (v := ?_) rfl (by kernel_rfl) (by kernel_rfl) (by kernel_rfl) (fun _ _ _ h => h) ?_ (by with_reducible assumption) ?_
              rotate_left 1
              focus (refine Or.inl ⟨by rfl, ?_⟩; intro wq hSw; obtain ⟨s0, s1, s2, s3⟩ := hSw; go_simp; try with_reducible rfl)
              try simp only [Act.put, List.setIfInBounds_toArray, List.set_cons_zero, List.set_cons_succ]
              refine wpAnyH_take (i := 8) (oi := { dst := some _, op := _, type := _, pos := _, after := _, guard := _ }) (v := ?_) rfl (by kernel_rfl) (by kernel_rfl) (by kernel_rfl) (fun _ _ _ h => h) ?_ (by with_reducible assumption) ?_
              rotate_left 1
              focus (refine Or.inl ⟨by rfl, ?_⟩; intro wq hSw; obtain ⟨s0, s1, s2, s3⟩ := hSw; go_simp; try with_reducible rfl)
              try simp only [Act.put, List.setIfInBounds_toArray, List.set_cons_zero, List.set_cons_succ]
              refine wpAnyH_ready (rs := [10]) (by kernel_rfl) (by simp) ?_
              refine AllReadyH.cons rfl (fun KS hKS => ?_) AllReadyH.nil
              obtain ⟨⟨z0, z1, z2, z3⟩, z4, z5, z6⟩ := HZm.out.cells
              have zf := HZm.out.fro
              have z7 := zf 0
              have z8 := zf 1
              have zne := HNEQ.out
              go_simp
              refine hKS.out _ _ (by refine ⟨?_, ?_, ?_, ?_⟩ <;> simp [World.cell?_setCell_far, zne, Ne.symm zne, HKm.out.box.c0, HKm.out.box.c1, HKm.out.box.c2, HKm.out.box.c3]) (fun hHeld => ?_)
              clear hKS z0 z1 z2 z3 z4 z5 z6 z7 z8 zf zne
              try simp only [Act.put, List.setIfInBounds_toArray, List.set_cons_zero, List.set_cons_succ]
              refine wpAnyH_take (i := 11) (oi := { dst := some _, op := _, type := _, pos := _, after := _, guard := _ }) (v := ?_) rfl (by kernel_rfl) (by kernel_rfl) (by kernel_rfl) (fun _ _ _ h => h) ?_ (by with_reducible assumption) ?_
              rotate_left 1
              focus (refine Or.inl ⟨by rfl, ?_⟩; intro wq hSw; obtain ⟨s0, s1, s2, s3⟩ := hSw; go_simp; try with_reducible rfl)
              try simp only [Act.put, List.setIfInBounds_toArray, List.set_cons_zero, List.set_cons_succ]
              refine wpAnyH_done (by kernel_rfl) ?_ _
              go_wp2_with fail
              go_meet
              have HZP := Lib.hid (HZm.out.put1 HOm.out HNE.out true E Q)
              have HLP := Lib.hid (low_put4 HLm.out HZm.out.lo (.bool true) (.int .i64 E) (.int .i64 Q) (.slice ax m2 cx))
              exact ⟨_, ax, cx, rfl, rfl, HLP, HZP⟩
          · refine AllReadyH.cons rfl (fun KA hKA => ?_) AllReadyH.nil
            go_simp
            have HBz := Lib.hid (bOne wd (.cells #[.bool false, .int .i64 0, .int .i64 0, .slice none 0 0] 26))
            have HZ0 := Lib.hid (H4.new (YOwn.nil wx.heap.size wd 40) HLd.out.size false 0 0)
            have HKz := Lib.hid (HKd.out.below HBz.out)
            have HLz := Lib.hid (low_after HLd.out HBz.out)
            have HNEQ := Lib.hid (show b3 ≠ wd.heap.size from Nat.ne_of_lt HKd.out.box.lt)
            refine hKA.out _ _ ⟨HKz.out.box.c0, HKz.out.box.c1, HKz.out.box.c2, HKz.out.box.c3⟩ (fun hHeld => ?_)
            clear hKA
            try simp only [Act.put, List.setIfInBounds_toArray, List.set_cons_zero, List.set_cons_succ]
            refine wpAnyH_ready (rs := [4]) (by kernel_rfl) (by simp) ?_
            refine AllReadyH.cons rfl (fun KT hKT => ?_) AllReadyH.nil
            go_simp
            refine (at_int _ w.heap.size a0 len0 cap0 cf (HC.out.below (low_after HL.out HLz.out)) i (by omega) (by omega) z HZ.out).mono ?_
            rintro e w5 ⟨⟨rfl, _, _⟩, rfl⟩
            dsimp only
            refine hKT.out _ _ ⟨HKz.out.box.c0, HKz.out.box.c1, HKz.out.box.c2, HKz.out.box.c3⟩ (fun hHeld => ?_)
            clear hKT
            try simp only [Act.put, List.setIfInBounds_toArray, List.set_cons_zero, List.set_cons_succ]
            refine wpAnyH_ready (rs := [5]) (by kernel_rfl) (by simp) ?_
            refine AllReadyH.cons rfl (fun KM hKM => ?_) AllReadyH.nil
            go_simp
            refine (specLaunch_any _ a m cap true E c l i z HKz.out.own.isN (by omega) HKz.out.own.nilcap).mono ?_
            rintro e wM ⟨⟨ax, cx, rfl, ho⟩, hb⟩
            rw [← HS.out, ← HM2.out] at ho ⊢
            rw [← HQ2.out]
            rw [← HI2.out]
            have HZm := Lib.hid (HZ0.out.below hb)
            have HKm := Lib.hid (HKz.out.below hb)
            have HLm := Lib.hid (low_after HLz.out hb)
            have HOm := Lib.hid (ho.base HLz.out.size)
            have HNE := Lib.hid (show (Value.slice ax m2 cx).ownBlock ≠ some wd.heap.size from fun e => by have := (World.ownsRow.lt ho _ e).1; simp at this; omega)
            clear ho hb
            dsimp only
            refine hKM.out _ _ ⟨HKm.out.box.c0, HKm.out.box.c1, HKm.out.box.c2, HKm.out.box.c3⟩ (fun hHeld => ?_)
            clear hKM
            try simp only [Act.put, List.setIfInBounds_toArray, List.set_cons_zero, List.set_cons_succ]
            refine wpAnyH_take (i := 6) (oi := { dst := some _, op := _, type := _, pos := _, after := _, guard := _ }) (v := ?_) rfl (by kernel_rfl) (by kernel_rfl) (by kernel_rfl) (fun _ _ _ h => h) ?_ (by with_reducible assumption) ?_
            rotate_left 1
            focus (refine Or.inl ⟨by rfl, ?_⟩; intro wq hSw; obtain ⟨s0, s1, s2, s3⟩ := hSw; go_simp; try with_reducible rfl)
            try simp only [Act.put, List.setIfInBounds_toArray, List.set_cons_zero, List.set_cons_succ]
            refine wpAnyH_take (i := 7) (oi := { dst := some _, op := _, type := _, pos := _, after := _, guard := _ }) (v := ?_) rfl (by kernel_rfl) (by kernel_rfl) (by kernel_rfl) (fun _ _ _ h => h) ?_ (by with_reducible assumption) ?_
            rotate_left 1
            focus (refine Or.inl ⟨by rfl, ?_⟩; intro wq hSw; obtain ⟨s0, s1, s2, s3⟩ := hSw; go_simp; try with_reducible rfl)
            try simp only [Act.put, List.setIfInBounds_toArray, List.set_cons_zero, List.set_cons_succ]
            refine wpAnyH_take (i := 8) (oi := { dst := some _, op := _, type := _, pos := _, after := _, guard := _ }) (v := ?_) rfl (by kernel_rfl) (by kernel_rfl) (by kernel_rfl) (fun _ _ _ h => h) ?_ (by with_reducible assumption) ?_
            rotate_left 1
            focus (refine Or.inl ⟨by rfl, ?_⟩; intro wq hSw; obtain ⟨s0, s1, s2, s3⟩ := hSw; go_simp; try with_reducible rfl)
            try simp only [Act.put, List.setIfInBounds_toArray, List.set_cons_zero, List.set_cons_succ]
            refine wpAnyH_ready (rs := [10]) (by kernel_rfl) (by simp) ?_
            refine AllReadyH.cons rfl (fun KS hKS => ?_) AllReadyH.nil
            obtain ⟨⟨z0, z1, z2, z3⟩, z4, z5, z6⟩ := HZm.out.cells
            have zf := HZm.out.fro
            have z7 := zf 0
            have z8 := zf 1
            have zne := HNEQ.out
            go_simp
            refine hKS.out _ _ (by refine ⟨?_, ?_, ?_, ?_⟩ <;> simp [World.cell?_setCell_far, zne, Ne.symm zne, HKm.out.box.c0, HKm.out.box.c1, HKm.out.box.c2, HKm.out.box.c3]) (fun hHeld => ?_)
            clear hKS z0 z1 z2 z3 z4 z5 z6 z7 z8 zf zne
            try simp only [Act.put, List.setIfInBounds_toArray, List.set_cons_zero, List.set_cons_succ]
            refine wpAnyH_take (i := 11) (oi := { dst := some _, op := _, type := _, pos := _, after := _, guard := _ }) (v := ?_) rfl (by kernel_rfl) (by kernel_rfl) (by kernel_rfl) (fun _ _ _ h => h) ?_ (by with_reducible assumption) ?_
            rotate_left 1
            focus (refine Or.inl ⟨by rfl, ?_⟩; intro wq hSw; obtain ⟨s0, s1, s2, s3⟩ := hSw; go_simp; try with_reducible rfl)
            try simp only [Act.put, List.setIfInBounds_toArray, List.set_cons_zero, List.set_cons_succ]
            refine wpAnyH_done (by kernel_rfl) ?_ _
            go_wp2_with fail
            go_meet
            have HZP := Lib.hid (HZm.out.put1 HOm.out HNE.out true E Q)
            have HLP := Lib.hid (low_put4 HLm.out HZm.out.lo (.bool true) (.int .i64 E) (.int .i64 Q) (.slice ax m2 cx))
            exact ⟨_, ax, cx, rfl, rfl, HLP, HZP⟩
        case rest =>
          obtain ⟨kd, ad, cd, rfl, rfl, HLD, HD⟩ := hcut
          obtain ⟨wx2, rfl⟩ : ∃ x, x = wc := ⟨_, rfl⟩
          replace HK := Lib.hid (HK.out.below HLD.out)
          replace HB := Lib.hid (HB.out.below HLD.out)
          replace HL := Lib.hid (low_after HL.out HLD.out)
          clear HLD
          have hII : (I != I) = false := by simp
          obtain ⟨⟨c0, c1, c2, c3⟩, c4, c5, c6⟩ := HB.out.cells
          obtain ⟨⟨d0, d1, d2, d3⟩, d4, d5, d6⟩ := HD.out.cells
          go_wp2_with fail
          refine (sameLink_yes _ _ ab ad m2 cb cd true E Q S HB.out.own.isN HD.out.own.isN (by omega) (Nat.le_refl _)).mono ?_
          rintro e w6 ⟨rfl, hb⟩
          replace HK := Lib.hid (HK.out.below hb)
          replace HB := Lib.hid (HB.out.below hb)
          replace HL := Lib.hid (low_after HL.out hb)
          clear hb HD hII c0 c1 c2 c3 c4 c5 c6 d0 d1 d2 d3 d4 d5 d6
          have HKP := Lib.hid (HK.out.put1 (HB.out.own.base HB1.out) (fun e => by have := (World.ownsRow.lt HB.out.own _ e).1; have := HB3.out; omega) true E Q)
          have HLP := Lib.hid (low_put4 HL.out HK.out.lo (.bool true) (.int .i64 E) (.int .i64 Q) (.slice ab m2 cb))
          obtain ⟨⟨c0, c1, c2, c3⟩, c4, c5, c6⟩ := HB.out.cells
          obtain ⟨⟨k0, k1, k2, k3⟩, k4, k5, k6⟩ := HK.out.cells
          have kf := HK.out.fro
          have k7 := kf 0
          have k8 := kf 1
          clear kf
          by_cases hfull : l.length < 8
          · obtain ⟨hb1, hsi⟩ := HI.out.yes (z := z) HJ30.out hfull HR.out
            rw [← HIJ.out] at hb1 hsi
            have hQe : Q = c + 1 := by rw [HQ2.out]; unfold lauS; rw [hb1]; rfl
            obtain rfl : Q = I := by rw [HI2.out, hQe]; unfold lauN; rw [hb1]; rfl
            have hSe : S = l ++ [(c + 1, i, z)] := by rw [HS.out]; unfold lauL; rw [hb1]; rfl
            rw [← hSe, ← hQe] at hsi
            have HSI := Lib.hid hsi
            have hwc : IntKind.i64.wrap (c + 1) = Q := by rw [hQe]; exact IntWalk.i64_in _ (by omega)
            have hb5 : decide (0 < Q) = true := by simp; omega
            have hb6 : (Q != Q) = false := by simp
            clear hfull hb1 hsi hQe hSe HS HQ2 HI2 HI
            go_wp2_with fail
            clear hwc hb5 hb6 c0 c1 c2 c3 c4 c5 c6 k0 k1 k2 k3 k4 k5 k6 k7 k8
            obtain ⟨w7, hw7⟩ : ∃ x, x = (((w6.setCell ⟨b3, 0, none⟩ (.bool true)).setCell ⟨b3, 1, none⟩ (.int .i64 E)).setCell ⟨b3, 2, none⟩ (.int .i64 Q)).setCell ⟨b3, 3, none⟩ (.slice ab m2 cb) := ⟨_, rfl⟩
            rw [← hw7] at HKP HLP ⊢
            clear hw7
            refine (at_int _ w.heap.size a0 len0 cap0 cf (HC.out.below HLP.out) p (by omega) (by omega) y HY.out).mono ?_
            rintro e w8 ⟨⟨rfl, _, _⟩, rfl⟩
            obtain ⟨⟨k0, k1, k2, k3⟩, k4, k5, k6⟩ := HKP.out.cells
            have kf := HKP.out.fro
            have k7 := kf 0
            have k8 := kf 1
            clear kf
            by_cases hy3 : r3 = 0
            · have hb3 : (r3 == 0) = true := by simp [hy3]
              clear hy3
              by_cases hm0 : 0 < m2
              · have hb4 : decide ((0 : Int) < (m2 : Int)) = true := by simp; omega
                have hS0 : 0 < S.length := by have := HM2.out; omega
                obtain ⟨bb, off, hab, hbw, q0, q1, q2⟩ := HKP.out.own.isN.cell 0 hS0
                subst hab
                obtain ⟨x, hx⟩ : ∃ x, x = S[0].1 := ⟨_, rfl⟩
                rw [← hx] at q0
                have hq0 : w7.cell? ⟨bb, off, none⟩ = some (.int .i64 x) := by simpa using q0
                have HSA := Lib.hid (HSI.out.ans (e := E) (s := x))
                have hm2n : (0 : Int) < (m2 : Int) := by omega
                clear hx q0 q1 q2 hm0 hS0
                go_upto_region 18 with fail
                have HLd := Lib.hid (show Below w7.heap.size w7 w7.drew from below_drew' (Below.refl _ _))
                have HKd := Lib.hid (HKP.out.below HLd.out)
                have hq9 := below_keep HLd.out (Nat.le_refl _) hbw hq0
                refine Rk.wp_region_K (k := 12) (S := fun w' => w'.cell? ⟨b3, 0, none⟩ = some (.bool true) ∧ w'.cell? ⟨b3, 1, none⟩ = some (.int .i64 E) ∧ w'.cell? ⟨b3, 2, none⟩ = some (.int .i64 Q) ∧ w'.cell? ⟨b3, 3, none⟩ = some (.slice (some ⟨bb, off, none⟩) m2 cb) ∧ w'.cell? ⟨bb, off, none⟩ = some (.int .i64 x)) (by kernel_rfl) ⟨k0, k1, k2, k3, hq0⟩ (fun hHeld => ?_)
                refine Rk.wpAnyK_take (i := 0) (oi := { dst := some _, op := _, type := _, pos := _, after := _, guard := _ }) (v := ?_) rfl (by kernel_rfl) (by kernel_rfl) (by kernel_rfl) (by kernel_rfl) (by kernel_rfl) (fun _ _ _ h => h) ?_ (by assumption) ?_
                rotate_left 1
                focus (refine Or.inl ⟨by rfl, ?_⟩; intro wq hSw; obtain ⟨s0, s1, s2, s3, s4⟩ := hSw; go_simp; try with_reducible rfl)
                try simp only [Act.put, List.setIfInBounds_toArray, List.set_cons_zero, List.set_cons_succ]
                refine Rk.wpAnyK_take (i := 1) (oi := { dst := some _, op := _, type := _, pos := _, after := _, guard := _ }) (v := ?_) rfl (by kernel_rfl) (by kernel_rfl) (by kernel_rfl) (by kernel_rfl) (by kernel_rfl) (fun _ _ _ h => h) ?_ (by assumption) ?_
                rotate_left 1
                focus (refine Or.inl ⟨by rfl, ?_⟩; intro wq hSw; obtain ⟨s0, s1, s2, s3, s4⟩ := hSw; go_simp; try with_reducible rfl)
                try simp only [Act.put, List.setIfInBounds_toArray, List.set_cons_zero, List.set_cons_succ]
                refine Rk.wpAnyK_take (i := 2) (oi := { dst := some _, op := _, type := _, pos := _, after := _, guard := _ }) (v := ?_) rfl (by kernel_rfl) (by kernel_rfl) (by kernel_rfl) (by kernel_rfl) (by kernel_rfl) (fun _ _ _ h => h) ?_ (by assumption) ?_
                rotate_left 1
                focus (refine Or.inl ⟨by rfl, ?_⟩; intro wq hSw; obtain ⟨s0, s1, s2, s3, s4⟩ := hSw; go_simp; try with_reducible rfl)
                try simp only [Act.put, List.setIfInBounds_toArray, List.set_cons_zero, List.set_cons_succ]
                refine Rk.wpAnyK_take (i := 3) (oi := { dst := some _, op := _, type := _, pos := _, after := _, guard := _ }) (v := ?_) rfl (by kernel_rfl) (by kernel_rfl) (by kernel_rfl) (by kernel_rfl) (by kernel_rfl) (fun _ _ _ h => h) ?_ (by assumption) ?_
                rotate_left 1
                focus (refine Or.inl ⟨by rfl, ?_⟩; intro wq hSw; obtain ⟨s0, s1, s2, s3, s4⟩ := hSw; go_simp; try with_reducible rfl)
                try simp only [Act.put, List.setIfInBounds_toArray, List.set_cons_zero, List.set_cons_succ]
                refine Rk.wpAnyK_take (i := 4) (oi := { dst := some _, op := _, type := _, pos := _, after := _, guard := _ }) (v := ?_) rfl (by kernel_rfl) (by kernel_rfl) (by kernel_rfl) (by kernel_rfl) (by kernel_rfl) (fun _ _ _ h => h) ?_ (by assumption) ?_
                rotate_left 1
                focus (refine Or.inl ⟨by rfl, ?_⟩; intro wq hSw; obtain ⟨s0, s1, s2, s3, s4⟩ := hSw; go_simp; try with_reducible rfl)
                try simp only [Act.put, List.setIfInBounds_toArray, List.set_cons_zero, List.set_cons_succ]
                refine Rk.wpAnyK_take (i := 5) (oi := { dst := some _, op := _, type := _, pos := _, after := _, guard := _ }) (v := ?_) rfl (by kernel_rfl) (by kernel_rfl) (by kernel_rfl) (by kernel_rfl) (by kernel_rfl) (fun _ _ _ h => h) ?_ (by assumption) ?_
                rotate_left 1
                focus (refine Or.inl ⟨by rfl, ?_⟩; intro wq hSw; obtain ⟨s0, s1, s2, s3, s4⟩ := hSw; go_simp; try with_reducible rfl)
                try simp only [Act.put, List.setIfInBounds_toArray, List.set_cons_zero, List.set_cons_succ]
                refine Rk.wpAnyK_take (i := 6) (oi := { dst := some _, op := _, type := _, pos := _, after := _, guard := _ }) (v := ?_) rfl (by kernel_rfl) (by kernel_rfl) (by kernel_rfl) (by kernel_rfl) (by kernel_rfl) (fun _ _ _ h => h) ?_ (by assumption) ?_
                rotate_left 1
                focus (refine Or.inl ⟨by rfl, ?_⟩; intro wq hSw; obtain ⟨s0, s1, s2, s3, s4⟩ := hSw; go_simp; try with_reducible rfl)
                try simp only [Act.put, List.setIfInBounds_toArray, List.set_cons_zero, List.set_cons_succ]
                refine Rk.wpAnyK_take (i := 7) (oi := { dst := some _, op := _, type := _, pos := _, after := _, guard := _ }) (v := ?_) rfl (by kernel_rfl) (by kernel_rfl) (by kernel_rfl) (by kernel_rfl) (by kernel_rfl) (fun _ _ _ h => h) ?_ (by assumption) ?_
                rotate_left 1
                focus (refine Or.inl ⟨by rfl, ?_⟩; intro wq hSw; obtain ⟨s0, s1, s2, s3, s4⟩ := hSw; go_simp; try with_reducible rfl)
                try simp only [Act.put, List.setIfInBounds_toArray, List.set_cons_zero, List.set_cons_succ]
                refine Rk.wpAnyK_ready (rs := [8]) (by kernel_rfl) (by simp) ?_
                refine Rk.AllReadyK.cons rfl (fun KK hKK => ?_) Rk.AllReadyK.nil
                go_simp
                refine (answer_any _ (some ⟨bb, off, none⟩) m2 cb true E Q S E x HKd.out.own.isN (by omega)).mono ?_
                rintro e w9 ⟨⟨a9, c9, rfl, ho⟩, hb⟩
                have HKb := Lib.hid (HKd.out.below hb)
                have HKQ := Lib.hid (HKd.out.put (up' := true) (ep' := E) (sq' := Q) hb ho)
                have HLQ := Lib.hid (low_put4 (low_after (low_after HLP.out HLd.out) hb) HKP.out.lo (.bool true) (.int .i64 E) (.int .i64 Q) (.slice a9 (ansL true E Q S E x).length c9))
                have hq8 := below_keep hb (Nat.le_refl _) (show bb < w7.drew.heap.size from hbw) hq9
                clear ho hb k0 k1 k2 k3 k4 k5 k6 k7 k8
                obtain ⟨⟨k0, k1, k2, k3⟩, k4, k5, k6⟩ := HKb.out.cells
                have kf := HKb.out.fro
                have k7 := kf 0
                have k8 := kf 1
                clear kf
                dsimp only
                refine hKK.out _ _ ⟨k0, k1, k2, k3, hq8⟩ (fun hHeld => ?_)
                clear hKK
                try simp only [Act.put, List.setIfInBounds_toArray, List.set_cons_zero, List.set_cons_succ]
                refine Rk.wpAnyK_take (i := 9) (oi := { dst := some _, op := _, type := _, pos := _, after := _, guard := _ }) (v := ?_) rfl (by kernel_rfl) (by kernel_rfl) (by kernel_rfl) (by kernel_rfl) (by kernel_rfl) (fun _ _ _ h => h) ?_ (by assumption) ?_
                rotate_left 1
                focus (refine Or.inl ⟨by rfl, ?_⟩; intro wq hSw; go_simp; try with_reducible rfl)
                try simp only [Act.put, List.setIfInBounds_toArray, List.set_cons_zero, List.set_cons_succ]
                refine Rk.wpAnyK_take (i := 10) (oi := { dst := some _, op := _, type := _, pos := _, after := _, guard := _ }) (v := ?_) rfl (by kernel_rfl) (by kernel_rfl) (by kernel_rfl) (by kernel_rfl) (by kernel_rfl) (fun _ _ _ h => h) ?_ (by assumption) ?_
                rotate_left 1
                focus (refine Or.inl ⟨by rfl, ?_⟩; intro wq hSw; go_simp; try with_reducible rfl)
                try simp only [Act.put, List.setIfInBounds_toArray, List.set_cons_zero, List.set_cons_succ]
                refine Rk.wpAnyK_free (i := 11) (oi := { dst := some _, op := _, type := _, pos := _, after := _, guard := _ }) (v := ?_) rfl (by kernel_rfl) (by kernel_rfl) (by kernel_rfl) (by kernel_rfl) (by kernel_rfl) (fun _ _ _ h => h) ?_ (fun _ => by assumption) ?_
                rotate_left 1
                focus (refine Or.inl ⟨by rfl, ?_⟩; intro wq hSw; go_simp; try with_reducible rfl)
                try simp only [Act.put, List.setIfInBounds_toArray, List.set_cons_zero, List.set_cons_succ]
                refine Rk.wpAnyK_ready (rs := [12]) (by kernel_rfl) (by simp) ?_
                refine Rk.AllReadyK.last rfl (fun KK hKK => ?_)
                go_simp
                refine hKK.out _ _ ?_
                clear hKK hq0 hq8 hq9 k0 k1 k2 k3 k4 k5 k6 k7 k8
                refine Rk.wpAnyK_done (by kernel_rfl) ?_ _
                go_wp2_with fail
                go_roundw
                case rel => exact ⟨j + 1, Q, a9, _, c9, _, by have := HJ30.out; omega, rfl, by rw [HPQ.out], Lib.hid rfl, HSA, HKQ, HLQ⟩
                case measure => have := HJ30.out; have := HPQ.out; have := HIJ.out; simp [intOf]; omega
              · have hb4 : decide ((0 : Int) < (m2 : Int)) = false := by simp; omega
                have hb5 : decide (0 < m2) = false := by simp; omega
                clear hm0
                go_wp2_with fail
                go_roundw
                case rel => exact ⟨j + 1, Q, ab, m2, cb, S, by have := HJ30.out; omega, rfl, by rw [HPQ.out], HM2, HSI, HKP, HLP⟩
                case measure => have := HJ30.out; have := HPQ.out; have := HIJ.out; simp [intOf]; omega
            · have hb3 : (r3 == 0) = false := by simp [hy3]
              clear hy3
              go_wp2_with fail
              go_roundw
              case rel => exact ⟨j + 1, Q, ab, m2, cb, S, by have := HJ30.out; omega, rfl, by rw [HPQ.out], HM2, HSI, HKP, HLP⟩
              case measure => have := HJ30.out; have := HPQ.out; have := HIJ.out; simp [intOf]; omega
          · obtain ⟨hb1, hsi⟩ := HI.out.no (z := z) (by omega)
            rw [← HIJ.out] at hb1
            obtain rfl : Q = c := by rw [HQ2.out]; unfold lauS; rw [hb1]; rfl
            obtain rfl : I = 0 := by rw [HI2.out]; unfold lauN; rw [hb1]; rfl
            have hSe : S = l := by rw [HS.out]; unfold lauL; rw [hb1]; rfl
            rw [← hSe] at hsi
            have HSI := Lib.hid hsi
            clear hfull hb1 hsi hSe HS HQ2 HI2 HI
            go_wp2_with fail
            clear c0 c1 c2 c3 c4 c5 c6 k0 k1 k2 k3 k4 k5 k6 k7 k8
            obtain ⟨w7, hw7⟩ : ∃ x, x = (((w6.setCell ⟨b3, 0, none⟩ (.bool true)).setCell ⟨b3, 1, none⟩ (.int .i64 E)).setCell ⟨b3, 2, none⟩ (.int .i64 Q)).setCell ⟨b3, 3, none⟩ (.slice ab m2 cb) := ⟨_, rfl⟩
            rw [← hw7] at HKP HLP ⊢
            clear hw7
            refine (at_int _ w.heap.size a0 len0 cap0 cf (HC.out.below HLP.out) p (by omega) (by omega) y HY.out).mono ?_
            rintro e w8 ⟨⟨rfl, _, _⟩, rfl⟩
            obtain ⟨⟨k0, k1, k2, k3⟩, k4, k5, k6⟩ := HKP.out.cells
            have kf := HKP.out.fro
            have k7 := kf 0
            have k8 := kf 1
            clear kf
            by_cases hy3 : r3 = 0
            · have hb3 : (r3 == 0) = true := by simp [hy3]
              clear hy3
              by_cases hm0 : 0 < m2
              · have hb4 : decide ((0 : Int) < (m2 : Int)) = true := by simp; omega
                have hS0 : 0 < S.length := by have := HM2.out; omega
                obtain ⟨bb, off, hab, hbw, q0, q1, q2⟩ := HKP.out.own.isN.cell 0 hS0
                subst hab
                obtain ⟨x, hx⟩ : ∃ x, x = S[0].1 := ⟨_, rfl⟩
                rw [← hx] at q0
                have hq0 : w7.cell? ⟨bb, off, none⟩ = some (.int .i64 x) := by simpa using q0
                have HSA := Lib.hid (HSI.out.ans (e := E) (s := x))
                have hm2n : (0 : Int) < (m2 : Int) := by omega
                clear hx q0 q1 q2 hm0 hS0
                go_upto_region 18 with fail
                have HLd := Lib.hid (show Below w7.heap.size w7 w7.drew from below_drew' (Below.refl _ _))
                have HKd := Lib.hid (HKP.out.below HLd.out)
                have hq9 := below_keep HLd.out (Nat.le_refl _) hbw hq0
                refine Rk.wp_region_K (k := 12) (S := fun w' => w'.cell? ⟨b3, 0, none⟩ = some (.bool true) ∧ w'.cell? ⟨b3, 1, none⟩ = some (.int .i64 E) ∧ w'.cell? ⟨b3, 2, none⟩ = some (.int .i64 Q) ∧ w'.cell? ⟨b3, 3, none⟩ = some (.slice (some ⟨bb, off, none⟩) m2 cb) ∧ w'.cell? ⟨bb, off, none⟩ = some (.int .i64 x)) (by kernel_rfl) ⟨k0, k1, k2, k3, hq0⟩ (fun hHeld => ?_)
                refine Rk.wpAnyK_take (i := 0) (oi := { dst := some _, op := _, type := _, pos := _, after := _, guard := _ }) (v := ?_) rfl (by kernel_rfl) (by kernel_rfl) (by kernel_rfl) (by kernel_rfl) (by kernel_rfl) (fun _ _ _ h => h) ?_ (by assumption) ?_
                rotate_left 1
                focus (refine Or.inl ⟨by rfl, ?_⟩; intro wq hSw; obtain ⟨s0, s1, s2, s3, s4⟩ := hSw; go_simp; try with_reducible rfl)
                try simp only [Act.put, List.setIfInBounds_toArray, List.set_cons_zero, List.set_cons_succ]
                refine Rk.wpAnyK_take (i := 1) (oi := { dst := some _, op := _, type := _, pos := _, after := _, guard := _ }) (v := ?_) rfl (by kernel_rfl) (by kernel_rfl) (by kernel_rfl) (by kernel_rfl) (by kernel_rfl) (fun _ _ _ h => h) ?_ (by assumption) ?_
                rotate_left 1
                focus (refine Or.inl ⟨by rfl, ?_⟩; intro wq hSw; obtain ⟨s0, s1, s2, s3, s4⟩ := hSw; go_simp; try with_reducible rfl)
                try simp only [Act.put, List.setIfInBounds_toArray, List.set_cons_zero, List.set_cons_succ]
                refine Rk.wpAnyK_take (i := 2) (oi := { dst := some _, op := _, type := _, pos := _, after := _, guard := _ }) (v := ?_) rfl (by kernel_rfl) (by kernel_rfl) (by kernel_rfl) (by kernel_rfl) (by kernel_rfl) (fun _ _ _ h => h) ?_ (by assumption) ?_
                rotate_left 1
                focus (refine Or.inl ⟨by rfl, ?_⟩; intro wq hSw; obtain ⟨s0, s1, s2, s3, s4⟩ := hSw; go_simp; try with_reducible rfl)
                try simp only [Act.put, List.setIfInBounds_toArray, List.set_cons_zero, List.set_cons_succ]
                refine Rk.wpAnyK_take (i := 3) (oi := { dst := some _, op := _, type := _, pos := _, after := _, guard := _ }) (v := ?_) rfl (by kernel_rfl) (by kernel_rfl) (by kernel_rfl) (by kernel_rfl) (by kernel_rfl) (fun _ _ _ h => h) ?_ (by assumption) ?_
                rotate_left 1
                focus (refine Or.inl ⟨by rfl, ?_⟩; intro wq hSw; obtain ⟨s0, s1, s2, s3, s4⟩ := hSw; go_simp; try with_reducible rfl)
                try simp only [Act.put, List.setIfInBounds_toArray, List.set_cons_zero, List.set_cons_succ]
                refine Rk.wpAnyK_take (i := 4) (oi := { dst := some _, op := _, type := _, pos := _, after := _, guard := _ }) (v := ?_) rfl (by kernel_rfl) (by kernel_rfl) (by kernel_rfl) (by kernel_rfl) (by kernel_rfl) (fun _ _ _ h => h) ?_ (by assumption) ?_
                rotate_left 1
                focus (refine Or.inl ⟨by rfl, ?_⟩; intro wq hSw; obtain ⟨s0, s1, s2, s3, s4⟩ := hSw; go_simp; try with_reducible rfl)
                try simp only [Act.put, List.setIfInBounds_toArray, List.set_cons_zero, List.set_cons_succ]
                refine Rk.wpAnyK_take (i := 5) (oi := { dst := some _, op := _, type := _, pos := _, after := _, guard := _ }) (v := ?_) rfl (by kernel_rfl) (by kernel_rfl) (by kernel_rfl) (by kernel_rfl) (by kernel_rfl) (fun _ _ _ h => h) ?_ (by assumption) ?_
                rotate_left 1
                focus (refine Or.inl ⟨by rfl, ?_⟩; intro wq hSw; obtain ⟨s0, s1, s2, s3, s4⟩ := hSw; go_simp; try with_reducible rfl)
                try simp only [Act.put, List.setIfInBounds_toArray, List.set_cons_zero, List.set_cons_succ]
                refine Rk.wpAnyK_take (i := 6) (oi := { dst := some _, op := _, type := _, pos := _, after := _, guard := _ }) (v := ?_) rfl (by kernel_rfl) (by kernel_rfl) (by kernel_rfl) (by kernel_rfl) (by kernel_rfl) (fun _ _ _ h => h) ?_ (by assumption) ?_
                rotate_left 1
                focus (refine Or.inl ⟨by rfl, ?_⟩; intro wq hSw; obtain ⟨s0, s1, s2, s3, s4⟩ := hSw; go_simp; try with_reducible rfl)
                try simp only [Act.put, List.setIfInBounds_toArray, List.set_cons_zero, List.set_cons_succ]
                refine Rk.wpAnyK_take (i := 7) (oi := { dst := some _, op := _, type := _, pos := _, after := _, guard := _ }) (v := ?_) rfl (by kernel_rfl) (by kernel_rfl) (by kernel_rfl) (by kernel_rfl) (by kernel_rfl) (fun _ _ _ h => h) ?_ (by assumption) ?_
                rotate_left 1
                focus (refine Or.inl ⟨by rfl, ?_⟩; intro wq hSw; obtain ⟨s0, s1, s2, s3, s4⟩ := hSw; go_simp; try with_reducible rfl)
                try simp only [Act.put, List.setIfInBounds_toArray, List.set_cons_zero, List.set_cons_succ]
                refine Rk.wpAnyK_ready (rs := [8]) (by kernel_rfl) (by simp) ?_
                refine Rk.AllReadyK.cons rfl (fun KK hKK => ?_) Rk.AllReadyK.nil
                go_simp
                refine (answer_any _ (some ⟨bb, off, none⟩) m2 cb true E Q S E x HKd.out.own.isN (by omega)).mono ?_
                rintro e w9 ⟨⟨a9, c9, rfl, ho⟩, hb⟩
                have HKb := Lib.hid (HKd.out.below hb)
                have HKQ := Lib.hid (HKd.out.put (up' := true) (ep' := E) (sq' := Q) hb ho)
                have HLQ := Lib.hid (low_put4 (low_after (low_after HLP.out HLd.out) hb) HKP.out.lo (.bool true) (.int .i64 E) (.int .i64 Q) (.slice a9 (ansL true E Q S E x).length c9))
                have hq8 := below_keep hb (Nat.le_refl _) (show bb < w7.drew.heap.size from hbw) hq9
                clear ho hb k0 k1 k2 k3 k4 k5 k6 k7 k8
                obtain ⟨⟨k0, k1, k2, k3⟩, k4, k5, k6⟩ := HKb.out.cells
                have kf := HKb.out.fro
                have k7 := kf 0
                have k8 := kf 1
                clear kf
                dsimp only
                refine hKK.out _ _ ⟨k0, k1, k2, k3, hq8⟩ (fun hHeld => ?_)
                clear hKK
                try simp only [Act.put, List.setIfInBounds_toArray, List.set_cons_zero, List.set_cons_succ]
                refine Rk.wpAnyK_take (i := 9) (oi := { dst := some _, op := _, type := _, pos := _, after := _, guard := _ }) (v := ?_) rfl (by kernel_rfl) (by kernel_rfl) (by kernel_rfl) (by kernel_rfl) (by kernel_rfl) (fun _ _ _ h => h) ?_ (by assumption) ?_
                rotate_left 1
                focus (refine Or.inl ⟨by rfl, ?_⟩; intro wq hSw; go_simp; try with_reducible rfl)
                try simp only [Act.put, List.setIfInBounds_toArray, List.set_cons_zero, List.set_cons_succ]
                refine Rk.wpAnyK_take (i := 10) (oi := { dst := some _, op := _, type := _, pos := _, after := _, guard := _ }) (v := ?_) rfl (by kernel_rfl) (by kernel_rfl) (by kernel_rfl) (by kernel_rfl) (by kernel_rfl) (fun _ _ _ h => h) ?_ (by assumption) ?_
                rotate_left 1
                focus (refine Or.inl ⟨by rfl, ?_⟩; intro wq hSw; go_simp; try with_reducible rfl)
                try simp only [Act.put, List.setIfInBounds_toArray, List.set_cons_zero, List.set_cons_succ]
                refine Rk.wpAnyK_free (i := 11) (oi := { dst := some _, op := _, type := _, pos := _, after := _, guard := _ }) (v := ?_) rfl (by kernel_rfl) (by kernel_rfl) (by kernel_rfl) (by kernel_rfl) (by kernel_rfl) (fun _ _ _ h => h) ?_ (fun _ => by assumption) ?_
                rotate_left 1
                focus (refine Or.inl ⟨by rfl, ?_⟩; intro wq hSw; go_simp; try with_reducible rfl)
                try simp only [Act.put, List.setIfInBounds_toArray, List.set_cons_zero, List.set_cons_succ]
                refine Rk.wpAnyK_ready (rs := [12]) (by kernel_rfl) (by simp) ?_
                refine Rk.AllReadyK.last rfl (fun KK hKK => ?_)
                go_simp
                refine hKK.out _ _ ?_
                clear hKK hq0 hq8 hq9 k0 k1 k2 k3 k4 k5 k6 k7 k8
                refine Rk.wpAnyK_done (by kernel_rfl) ?_ _
                go_wp2_with fail
                go_roundw
                case rel => exact ⟨j + 1, Q, a9, _, c9, _, by have := HJ30.out; omega, rfl, by rw [HPQ.out], Lib.hid rfl, HSA, HKQ, HLQ⟩
                case measure => have := HJ30.out; have := HPQ.out; have := HIJ.out; simp [intOf]; omega
              · have hb4 : decide ((0 : Int) < (m2 : Int)) = false := by simp; omega
                have hb5 : decide (0 < m2) = false := by simp; omega
                clear hm0
                go_wp2_with fail
                go_roundw
                case rel => exact ⟨j + 1, Q, ab, m2, cb, S, by have := HJ30.out; omega, rfl, by rw [HPQ.out], HM2, HSI, HKP, HLP⟩
                case measure => have := HJ30.out; have := HPQ.out; have := HIJ.out; simp [intOf]; omega
            · have hb3 : (r3 == 0) = false := by simp [hy3]
              clear hy3
              go_wp2_with fail
              go_roundw
              case rel => exact ⟨j + 1, Q, ab, m2, cb, S, by have := HJ30.out; omega, rfl, by rw [HPQ.out], HM2, HSI, HKP, HLP⟩
              case measure => have := HJ30.out; have := HPQ.out; have := HIJ.out; simp [intOf]; omega
    · obtain rfl : j = 30 := by omega
      have hin := HI.out
      have HOK := Lib.hid (lokB_true hin.ok)
      have h8 : (8 : Int) ≤ c := by have := hin.lo; omega
      have hml : (m : Int) ≤ 8 := by have := hin.ok.len; have := HML.out; omega
      have hcc : (c == c) = true := by simp
      clear hlt hj hin
      obtain ⟨⟨k0, k1, k2, k3⟩, k4, k5, k6⟩ := HK.out.cells
      go_wp2_with fail
      refine (linkOk_any _ a m cap true E c l HK.out.own.isN).mono ?_
      rintro e w6 ⟨rfl, hb⟩
      rw [HOK.out]
      replace HK := Lib.hid (HK.out.below hb)
      replace HL := Lib.hid (low_after HL.out hb)
      clear hb k0 k1 k2 k3 k4 k5 k6
      obtain ⟨⟨k0, k1, k2, k3⟩, k4, k5, k6⟩ := HK.out.cells
      go_wp2_with fail
      go_ret
      exact ⟨rfl, HL.out⟩
  end Go.Proofs.Ytjfhdelphfgojaa.Lnk
