/-
  The walk of the law FnReady.
-/
import Derived.Test.YtjcopkjapnieoaaEvDD
import Derived.Test.YtjcopkjapnieoaaEvR
import Derived.Test.YtjcopkjapnieoaaEvW
import Derived.Test.YtjcopkjapnieoaaBig
import Derived.Deep.DeepCutAuto
import Derived.Deep.RegionHeld3
namespace Go.Proofs.Ytjcopkjapnieoaa.Evt
open Go.RowKit Go.Proofs.Ytjcopkjapnieoaa.Kit Go.Proofs.Ytjcopkjapnieoaa.Draw
set_option linter.unusedVariables false
set_option linter.unusedSimpArgs false

theorem _root_.Go.Proofs.Ytjcopkjapnieoaa.Kit.CodeAt.up {B B' : Nat} {w : World} {a : Option Addr} {len cap : Nat} (h : CodeAt B w a len cap) (hB : B ≤ B') : CodeAt B' w a len cap :=
  ⟨h.le, fun i hi => by obtain ⟨b, off, e, hlt, x⟩ := h.cell i hi; exact ⟨b, off, e, Nat.lt_of_lt_of_le hlt hB, x⟩⟩

set_option maxRecDepth 100000 in
set_option maxHeartbeats 1000000 in
theorem fnReady_walk (w : World) (a0 : Option Addr) (len0 cap0 : Nat) (zs : List Int) (hrow : IsRow .u8 w a0 len0 cap0 zs) :
    Calls Try.prog 3 #[.slice a0 len0 cap0] w fun e w' => e = .returned (.bool true) ∧ Below w.heap.size w w' := by
  have hcode := hrow.code
  have hle := hcode.le
  have HC := Lib.hid hcode
  have HLE := Lib.hid hle
  have HL := Lib.hid (Below.refl w.heap.size w)
  clear hrow hcode hle
  go_enter Try.func3, Try.ntmps3
  by_cases hbig : (1048576 : Int) < (len0 : Int)
  · go_wp2_with fail
    refine (big_yes _ a0 len0 cap0 HLE.out hbig).mono ?_
    rintro e w' ⟨rfl, rfl⟩
    go_wp2_with fail
    go_ret
    exact ⟨rfl, Below.refl _ _⟩
  go_wp2_with fail
  refine (big_no _ a0 len0 cap0 HLE.out (by omega)).mono ?_
  rintro e w' ⟨rfl, rfl⟩
  clear hbig
  go_wp2_with fail
  refine (drawReady_draw _ a0 len0 cap0 HC.out).mono ?_
  rintro e w1 ⟨⟨i, d, c, b, a, t, r, n, s, z, hde, hz, rfl⟩, hb⟩
  have HDE := Lib.hid hde
  have HPZ := Lib.hid hz
  clear hde hz
  replace HL := Lib.hid (bAfter HL.out hb HL.out.size)
  replace HL := Lib.hid (bAfter HL.out (bOne _ (.cells #[.int .i64 i, .int .i64 d, .int .i64 c, .string b, .int .i64 a, .int .i64 t, .int .i64 r, .int .i64 n, .int .i64 s] 25)) HL.out.size)
  have HA := Lib.hid (B9.new w1 i d c b a t r n s 25)
  replace HC := Lib.hid ((HC.out.below HL.out).up HL.out.size)
  clear hb
  go_wp2_with fail
  refine (drawOld_draw _ a0 len0 cap0 HC.out).mono ?_
  rintro e w2 ⟨⟨i2, d2, c2, b2, a2, t2, r2, n2, s2, z2, hde, hz, rfl⟩, hb⟩
  have HDE2 := Lib.hid hde
  have HPZ2 := Lib.hid hz
  clear hde hz HC
  replace HA := Lib.hid (HA.out.below hb)
  replace HL := Lib.hid (bAfter HL.out hb HL.out.size)
  replace HA := Lib.hid (HA.out.below (bOne _ (.cells #[.int .i64 i2, .int .i64 d2, .int .i64 c2, .string b2, .int .i64 a2, .int .i64 t2, .int .i64 r2, .int .i64 n2, .int .i64 s2] 25)))
  replace HL := Lib.hid (bAfter HL.out (bOne _ (.cells #[.int .i64 i2, .int .i64 d2, .int .i64 c2, .string b2, .int .i64 a2, .int .i64 t2, .int .i64 r2, .int .i64 n2, .int .i64 s2] 25)) HL.out.size)
  have HB := Lib.hid (B9.new w2 i2 d2 c2 b2 a2 t2 r2 n2 s2 25)
  clear hb
  have HM := Lib.hid (show Sml a t from by have := HDE.out; unfold DEv at this; unfold Sml; omega)
  have HM2 := Lib.hid (show Sml a2 t2 from by have := HDE2.out; unfold DEv at this; unfold Sml; omega)
  have HBZ := Lib.hid (show b.size ≤ maxLen from by have := HDE.out; unfold DEv at this; unfold maxLen; omega)
  obtain ⟨x, hx⟩ : ∃ x, x = rdyB a t n s z := ⟨_, rfl⟩
  obtain ⟨y, hy⟩ : ∃ y, y = oldB a2 t2 s2 z2 := ⟨_, rfl⟩
  obtain ⟨o, ho⟩ : ∃ o, o = eokB i d c b.size a t r n s := ⟨_, rfl⟩
  have HX := Lib.hid hx
  have HY := Lib.hid hy
  have HO := Lib.hid ho
  clear hx hy ho
  go_upto_region 5 with fail
  obtain ⟨V, hV⟩ : ∃ V, V = w2.alloc (.cells #[.int .i64 i2, .int .i64 d2, .int .i64 c2, .string b2, .int .i64 a2, .int .i64 t2, .int .i64 r2, .int .i64 n2, .int .i64 s2] 25) := ⟨_, rfl⟩
  rw [← hV] at HA HB HL ⊢
  clear hV
  go_cut [7, 8] (fun s7 s8 wx => s7 = .bool x ∧ s8 = .bool y ∧ Hid (Below V.heap.size V wx))
  case first =>
    have HKS := Lib.hid (fun w' (h : Below V.heap.size V w') => show Below V.heap.size V w' ∧ w'.cell? ⟨w1.heap.size, 0, none⟩ = some (.int .i64 i) ∧ w'.cell? ⟨w1.heap.size, 1, none⟩ = some (.int .i64 d) ∧ w'.cell? ⟨w1.heap.size, 2, none⟩ = some (.int .i64 c) ∧ w'.cell? ⟨w1.heap.size, 3, none⟩ = some (.string b) ∧ w'.cell? ⟨w1.heap.size, 4, none⟩ = some (.int .i64 a) ∧ w'.cell? ⟨w1.heap.size, 5, none⟩ = some (.int .i64 t) ∧ w'.cell? ⟨w1.heap.size, 6, none⟩ = some (.int .i64 r) ∧ w'.cell? ⟨w1.heap.size, 7, none⟩ = some (.int .i64 n) ∧ w'.cell? ⟨w1.heap.size, 8, none⟩ = some (.int .i64 s) ∧ w'.cell? ⟨w2.heap.size, 0, none⟩ = some (.int .i64 i2) ∧ w'.cell? ⟨w2.heap.size, 1, none⟩ = some (.int .i64 d2) ∧ w'.cell? ⟨w2.heap.size, 2, none⟩ = some (.int .i64 c2) ∧ w'.cell? ⟨w2.heap.size, 3, none⟩ = some (.string b2) ∧ w'.cell? ⟨w2.heap.size, 4, none⟩ = some (.int .i64 a2) ∧ w'.cell? ⟨w2.heap.size, 5, none⟩ = some (.int .i64 t2) ∧ w'.cell? ⟨w2.heap.size, 6, none⟩ = some (.int .i64 r2) ∧ w'.cell? ⟨w2.heap.size, 7, none⟩ = some (.int .i64 n2) ∧ w'.cell? ⟨w2.heap.size, 8, none⟩ = some (.int .i64 s2) from ⟨h, (HA.out.below h).c0, (HA.out.below h).c1, (HA.out.below h).c2, (HA.out.below h).c3, (HA.out.below h).c4, (HA.out.below h).c5, (HA.out.below h).c6, (HA.out.below h).c7, (HA.out.below h).c8, (HB.out.below h).c0, (HB.out.below h).c1, (HB.out.below h).c2, (HB.out.below h).c3, (HB.out.below h).c4, (HB.out.below h).c5, (HB.out.below h).c6, (HB.out.below h).c7, (HB.out.below h).c8⟩)
    have HD0 := Lib.hid (show Below V.heap.size V V.drew from below_drewE (Below.refl _ _))
    go_region_held3 (fun w' => Below V.heap.size V w' ∧ w'.cell? ⟨w1.heap.size, 0, none⟩ = some (.int .i64 i) ∧ w'.cell? ⟨w1.heap.size, 1, none⟩ = some (.int .i64 d) ∧ w'.cell? ⟨w1.heap.size, 2, none⟩ = some (.int .i64 c) ∧ w'.cell? ⟨w1.heap.size, 3, none⟩ = some (.string b) ∧ w'.cell? ⟨w1.heap.size, 4, none⟩ = some (.int .i64 a) ∧ w'.cell? ⟨w1.heap.size, 5, none⟩ = some (.int .i64 t) ∧ w'.cell? ⟨w1.heap.size, 6, none⟩ = some (.int .i64 r) ∧ w'.cell? ⟨w1.heap.size, 7, none⟩ = some (.int .i64 n) ∧ w'.cell? ⟨w1.heap.size, 8, none⟩ = some (.int .i64 s) ∧ w'.cell? ⟨w2.heap.size, 0, none⟩ = some (.int .i64 i2) ∧ w'.cell? ⟨w2.heap.size, 1, none⟩ = some (.int .i64 d2) ∧ w'.cell? ⟨w2.heap.size, 2, none⟩ = some (.int .i64 c2) ∧ w'.cell? ⟨w2.heap.size, 3, none⟩ = some (.string b2) ∧ w'.cell? ⟨w2.heap.size, 4, none⟩ = some (.int .i64 a2) ∧ w'.cell? ⟨w2.heap.size, 5, none⟩ = some (.int .i64 t2) ∧ w'.cell? ⟨w2.heap.size, 6, none⟩ = some (.int .i64 r2) ∧ w'.cell? ⟨w2.heap.size, 7, none⟩ = some (.int .i64 n2) ∧ w'.cell? ⟨w2.heap.size, 8, none⟩ = some (.int .i64 s2))
      (first
        | exact HKS.out _ HD0.out
        | exact HKS.out _ HL0.out
        | exact HKS.out _ HL1.out)
      (first
        | (go_at_call 12; refine (ready_any i d c b a t r n s z _ HM.out).mono ?_; rintro e w5 ⟨rfl, hb⟩; rw [← HX.out]; have HL0 := Lib.hid (bAfter ((‹Below V.heap.size V _ ∧ _›).1) hb ((‹Below V.heap.size V _ ∧ _›).1).size); clear hb)
        | (go_at_call 13; refine (old_any i2 d2 c2 b2 a2 t2 r2 n2 s2 z2 _ HM2.out).mono ?_; rintro e w6 ⟨rfl, hb⟩; rw [← HY.out]; have HL1 := Lib.hid (bAfter ((‹Below V.heap.size V _ ∧ _›).1) hb ((‹Below V.heap.size V _ ∧ _›).1).size); clear hb))
    all_goals
      go_wp2_with fail
      go_meet
      first
        | exact ⟨rfl, rfl, HL0⟩
        | exact ⟨rfl, rfl, HL1⟩
  case rest =>
    obtain ⟨rfl, rfl, HBX⟩ := hcut
    rename_i wc
    have hb := HBX.out
    replace HA := Lib.hid (HA.out.below hb)
    replace HB := Lib.hid (HB.out.below hb)
    replace HL := Lib.hid (bAfter HL.out hb HL.out.size)
    clear hb HBX
    have hxx : (x != x) = false := by simp
    have hyy : (y != y) = false := by simp
    have hoo : (o != o) = false := by simp
    go_upto_region 6 with fail
    go_cut [45] (fun s45 wx => s45 = .bool false ∧ Hid (Below wc.heap.size wc wx))
    case first =>
      have HKS := Lib.hid (fun w' (h : Below wc.heap.size wc w') => show Below wc.heap.size wc w' ∧ w'.cell? ⟨w1.heap.size, 0, none⟩ = some (.int .i64 i) ∧ w'.cell? ⟨w1.heap.size, 1, none⟩ = some (.int .i64 d) ∧ w'.cell? ⟨w1.heap.size, 2, none⟩ = some (.int .i64 c) ∧ w'.cell? ⟨w1.heap.size, 3, none⟩ = some (.string b) ∧ w'.cell? ⟨w1.heap.size, 4, none⟩ = some (.int .i64 a) ∧ w'.cell? ⟨w1.heap.size, 5, none⟩ = some (.int .i64 t) ∧ w'.cell? ⟨w1.heap.size, 6, none⟩ = some (.int .i64 r) ∧ w'.cell? ⟨w1.heap.size, 7, none⟩ = some (.int .i64 n) ∧ w'.cell? ⟨w1.heap.size, 8, none⟩ = some (.int .i64 s) ∧ w'.cell? ⟨w2.heap.size, 0, none⟩ = some (.int .i64 i2) ∧ w'.cell? ⟨w2.heap.size, 1, none⟩ = some (.int .i64 d2) ∧ w'.cell? ⟨w2.heap.size, 2, none⟩ = some (.int .i64 c2) ∧ w'.cell? ⟨w2.heap.size, 3, none⟩ = some (.string b2) ∧ w'.cell? ⟨w2.heap.size, 4, none⟩ = some (.int .i64 a2) ∧ w'.cell? ⟨w2.heap.size, 5, none⟩ = some (.int .i64 t2) ∧ w'.cell? ⟨w2.heap.size, 6, none⟩ = some (.int .i64 r2) ∧ w'.cell? ⟨w2.heap.size, 7, none⟩ = some (.int .i64 n2) ∧ w'.cell? ⟨w2.heap.size, 8, none⟩ = some (.int .i64 s2) from ⟨h, (HA.out.below h).c0, (HA.out.below h).c1, (HA.out.below h).c2, (HA.out.below h).c3, (HA.out.below h).c4, (HA.out.below h).c5, (HA.out.below h).c6, (HA.out.below h).c7, (HA.out.below h).c8, (HB.out.below h).c0, (HB.out.below h).c1, (HB.out.below h).c2, (HB.out.below h).c3, (HB.out.below h).c4, (HB.out.below h).c5, (HB.out.below h).c6, (HB.out.below h).c7, (HB.out.below h).c8⟩)
      have HD0 := Lib.hid (show Below wc.heap.size wc wc.drew from below_drewE (Below.refl _ _))
      go_region_held3 (fun w' => Below wc.heap.size wc w' ∧ w'.cell? ⟨w1.heap.size, 0, none⟩ = some (.int .i64 i) ∧ w'.cell? ⟨w1.heap.size, 1, none⟩ = some (.int .i64 d) ∧ w'.cell? ⟨w1.heap.size, 2, none⟩ = some (.int .i64 c) ∧ w'.cell? ⟨w1.heap.size, 3, none⟩ = some (.string b) ∧ w'.cell? ⟨w1.heap.size, 4, none⟩ = some (.int .i64 a) ∧ w'.cell? ⟨w1.heap.size, 5, none⟩ = some (.int .i64 t) ∧ w'.cell? ⟨w1.heap.size, 6, none⟩ = some (.int .i64 r) ∧ w'.cell? ⟨w1.heap.size, 7, none⟩ = some (.int .i64 n) ∧ w'.cell? ⟨w1.heap.size, 8, none⟩ = some (.int .i64 s) ∧ w'.cell? ⟨w2.heap.size, 0, none⟩ = some (.int .i64 i2) ∧ w'.cell? ⟨w2.heap.size, 1, none⟩ = some (.int .i64 d2) ∧ w'.cell? ⟨w2.heap.size, 2, none⟩ = some (.int .i64 c2) ∧ w'.cell? ⟨w2.heap.size, 3, none⟩ = some (.string b2) ∧ w'.cell? ⟨w2.heap.size, 4, none⟩ = some (.int .i64 a2) ∧ w'.cell? ⟨w2.heap.size, 5, none⟩ = some (.int .i64 t2) ∧ w'.cell? ⟨w2.heap.size, 6, none⟩ = some (.int .i64 r2) ∧ w'.cell? ⟨w2.heap.size, 7, none⟩ = some (.int .i64 n2) ∧ w'.cell? ⟨w2.heap.size, 8, none⟩ = some (.int .i64 s2))
        (first
          | exact HKS.out _ HD0.out
          | exact HKS.out _ HL0.out
          | exact HKS.out _ HL1.out
          | exact HKS.out _ HL2.out
          | exact HKS.out _ HL3.out)
        (first
          | (go_at_call 14; refine (specReady_any i d c b a t r n s z _ HM.out).mono ?_; rintro e w5 ⟨rfl, hb⟩; rw [← HX.out]; have HL0 := Lib.hid (bAfter ((‹Below wc.heap.size wc _ ∧ _›).1) hb ((‹Below wc.heap.size wc _ ∧ _›).1).size); clear hb)
          | (go_at_call 15; refine (specOld_any i2 d2 c2 b2 a2 t2 r2 n2 s2 z2 _ HM2.out).mono ?_; rintro e w6 ⟨rfl, hb⟩; rw [← HY.out]; have HL1 := Lib.hid (bAfter ((‹Below wc.heap.size wc _ ∧ _›).1) hb ((‹Below wc.heap.size wc _ ∧ _›).1).size); clear hb)
          | (go_at_call 16; refine (implOk_any i d c b a t r n s _ HBZ.out).mono ?_; rintro e w7 ⟨rfl, hb⟩; rw [← HO.out]; have HL2 := Lib.hid (bAfter ((‹Below wc.heap.size wc _ ∧ _›).1) hb ((‹Below wc.heap.size wc _ ∧ _›).1).size); clear hb)
          | (go_at_call 17; refine (specOk_any i d c b a t r n s _ HBZ.out).mono ?_; rintro e w8 ⟨rfl, hb⟩; rw [← HO.out]; have HL3 := Lib.hid (bAfter ((‹Below wc.heap.size wc _ ∧ _›).1) hb ((‹Below wc.heap.size wc _ ∧ _›).1).size); clear hb))
      all_goals
        go_wp2_with fail
        go_meet
        first
          | exact ⟨rfl, HL3⟩
          | exact ⟨rfl, HL2⟩
    case rest =>
      obtain ⟨rfl, HBX⟩ := hcut
      have hb := HBX.out
      replace HA := Lib.hid (HA.out.below hb)
      replace HB := Lib.hid (HB.out.below hb)
      replace HL := Lib.hid (bAfter HL.out hb HL.out.size)
      clear hb HBX hxx hyy hoo
      obtain ⟨cc0, cc1, cc2, cc3, cc4, cc5, cc6, cc7, cc8, ccl⟩ := HA.out
      obtain ⟨dd0, dd1, dd2, dd3, dd4, dd5, dd6, dd7, dd8, ddl⟩ := HB.out
      cases x with
      | false =>
        cases y with
        | false =>
          go_wp2_with fail
          go_ret
          exact ⟨rfl, HL.out⟩
        | true =>
          obtain ⟨ho2, hle2⟩ : OldP a2 t2 s2 z2 := of_decide_eq_true HY.out.symm
          have hsub : IntKind.i64.wrap (z2 - a2) = z2 - a2 := IntWalk.i64_in _ (by have h1 := HM2.out; have h2 := HPZ2.out; unfold Sml at h1; unfold PN at h2; omega)
          have hsub2 : wrap64 (z2 - a2) = z2 - a2 := by have h1 := HM2.out; have h2 := HPZ2.out; unfold Sml at h1; unfold PN at h2; unfold wrap64; omega
          have hge : t2 ≤ z2 - a2 := by omega
          have hdg : decide (t2 ≤ z2 - a2) = true := decide_eq_true hge
          have HR2 := Lib.hid (show rdyB a2 t2 n2 s2 z2 = false from decide_eq_false (fun h => h.2.2 hle2))
          go_wp2_with fail
          refine (ready_any i2 d2 c2 b2 a2 t2 r2 n2 s2 z2 _ HM2.out).mono ?_
          rintro e w9 ⟨rfl, hb⟩
          rw [HR2.out]
          go_wp2_with fail
          go_ret
          exact ⟨rfl, bAfter HL.out hb HL.out.size⟩
      | true =>
        obtain ⟨rfl, hn, ho⟩ : RdyP a t n s z := of_decide_eq_true HX.out.symm
        have hdn : decide (n ≤ z) = true := decide_eq_true hn
        have HO1 := Lib.hid (show oldB a t 0 z = false from decide_eq_false (fun h => ho h.2))
        go_wp2_with fail
        refine (old_any i d c b a t r n 0 z _ HM.out).mono ?_
        rintro e w8 ⟨rfl, hb⟩
        rw [HO1.out]
        have HL8 := Lib.hid (bAfter HL.out hb HL.out.size)
        clear cc0 cc1 cc2 cc3 cc4 cc5 cc6 cc7 cc8 dd0 dd1 dd2 dd3 dd4 dd5 dd6 dd7 dd8 ccl ddl
        replace HB := Lib.hid (HB.out.below hb)
        clear hb
        obtain ⟨dd0, dd1, dd2, dd3, dd4, dd5, dd6, dd7, dd8, ddl⟩ := HB.out
        cases y with
        | false =>
          go_wp2_with fail
          go_ret
          exact ⟨rfl, HL8.out⟩
        | true =>
          obtain ⟨ho2, hle2⟩ : OldP a2 t2 s2 z2 := of_decide_eq_true HY.out.symm
          have hsub : IntKind.i64.wrap (z2 - a2) = z2 - a2 := IntWalk.i64_in _ (by have h1 := HM2.out; have h2 := HPZ2.out; unfold Sml at h1; unfold PN at h2; omega)
          have hsub2 : wrap64 (z2 - a2) = z2 - a2 := by have h1 := HM2.out; have h2 := HPZ2.out; unfold Sml at h1; unfold PN at h2; unfold wrap64; omega
          have hge : t2 ≤ z2 - a2 := by omega
          have hdg : decide (t2 ≤ z2 - a2) = true := decide_eq_true hge
          have HR2 := Lib.hid (show rdyB a2 t2 n2 s2 z2 = false from decide_eq_false (fun h => h.2.2 hle2))
          go_wp2_with fail
          refine (ready_any i2 d2 c2 b2 a2 t2 r2 n2 s2 z2 _ HM2.out).mono ?_
          rintro e w9 ⟨rfl, hb⟩
          rw [HR2.out]
          go_wp2_with fail
          go_ret
          exact ⟨rfl, bAfter HL8.out hb HL8.out.size⟩
end Go.Proofs.Ytjcopkjapnieoaa.Evt
