/-
  The walk of the law FnTimes.
-/
import Derived.Test.YtjcopkjapnieoaaEvDA
import Derived.Test.YtjcopkjapnieoaaEvDD
import Derived.Test.YtjcopkjapnieoaaEvR
import Derived.Test.YtjcopkjapnieoaaEvW
import Derived.Test.YtjcopkjapnieoaaBig
import Derived.Deep.DeepCutAuto
import Derived.Deep.RegionHeld3
namespace Go.Proofs.Ytjcopkjapnieoaa.Evt
open Go.RowKit Go.Proofs.Ytjcopkjapnieoaa.Kit Go.Proofs.Ytjcopkjapnieoaa.Draw
set_option linter.unusedVariables false
set_option linter.unusedSimpArgs false

set_option maxRecDepth 100000 in
set_option maxHeartbeats 1000000 in
theorem fnTimes_walk (w : World) (a0 : Option Addr) (len0 cap0 : Nat) (zs : List Int) (hrow : IsRow .u8 w a0 len0 cap0 zs) :
    Calls Try.prog 5 #[.slice a0 len0 cap0] w fun e w' => e = .returned (.bool true) ∧ Below w.heap.size w w' := by
  have hcode := hrow.code
  have hle := hcode.le
  have HC := Lib.hid hcode
  have HLE := Lib.hid hle
  have HL := Lib.hid (Below.refl w.heap.size w)
  clear hrow hcode hle
  go_enter Try.func5, Try.ntmps5
  by_cases hbig : (1048576 : Int) < (len0 : Int)
  · go_wp2_with fail
    refine (big_yes _ a0 len0 cap0 HLE.out hbig).mono ?_
    rintro e w' ⟨rfl, rfl⟩
    go_wp2_with fail
    go_ret
    exact ⟨rfl, Below.refl _ _⟩
  go_wp2_with fail
  refine (big_no _ a0 len0 cap0 HLE.out (by omega)).mono ?_
  rintro e w' ⟨rfl, rfl⟩
  clear hbig
  go_wp2_with fail
  refine (at_draw _ w.heap.size a0 len0 cap0 HC.out 0 (by omega)).mono ?_
  rintro e w' ⟨⟨xa, hxa0, hxa1, rfl⟩, rfl⟩
  go_wp2_with fail
  refine (at_draw _ w.heap.size a0 len0 cap0 HC.out 1 (by omega)).mono ?_
  rintro e w' ⟨⟨xt, hxt0, hxt1, rfl⟩, rfl⟩
  go_wp2_with fail
  refine (at_draw _ w.heap.size a0 len0 cap0 HC.out 0 (by omega)).mono ?_
  rintro e w' ⟨⟨xn, hxn0, hxn1, rfl⟩, rfl⟩
  go_wp2_with fail
  refine (at_draw _ w.heap.size a0 len0 cap0 HC.out 2 (by omega)).mono ?_
  rintro e w' ⟨⟨xm, hxm0, hxm1, rfl⟩, rfl⟩
  go_wp2_with fail
  obtain ⟨T, hT⟩ : ∃ x, x = 1 + xt := ⟨_, rfl⟩
  obtain ⟨N, hN⟩ : ∃ x, x = xn + xm % 40 := ⟨_, rfl⟩
  rw [← hT, ← hN]
  have hT0 : 1 ≤ T := by omega
  have hT1 : T ≤ 256 := by omega
  have hN0 : 0 ≤ N := by omega
  have hN1 : N ≤ 295 := by omega
  clear hT hN hxt0 hxt1 hxn0 hxn1 hxm0 hxm1 HC
  have HM := Lib.hid (show Sml xa T from by unfold Sml; omega)
  have HB0 := Lib.hid (B9.new w 1 1 1 ⟨#[]⟩ xa T 0 N 0 25)
  have HL0 := Lib.hid (bOne w (.cells #[.int .i64 1, .int .i64 1, .int .i64 1, .string ⟨#[]⟩, .int .i64 xa, .int .i64 T, .int .i64 0, .int .i64 N, .int .i64 0] 25))
  go_loopw [4] (fun now wr => ∃ nw : Int, now = .int .i64 nw ∧ xa ≤ nw ∧ nw ≤ xa + 300 ∧ Hid (Below w.heap.size w wr) ∧ Hid (B9 wr w.heap.size 1 1 1 ⟨#[]⟩ xa T 0 N 0)) (fun now _ => (xa + 300 - intOf now).toNat)
  case atStart => exact ⟨xa, rfl, by omega, by omega, HL0, HB0⟩
  case round =>
    obtain ⟨nw, rfl, hk0, hk1, HBL, HBX⟩ := hrel
    clear HL0 HB0
    obtain ⟨cc0, cc1, cc2, cc3, cc4, cc5, cc6, cc7, cc8, ccl⟩ := HBX.out
    by_cases hgo : nw < xa + 300
    · have hdl : decide (nw < xa + 300) = true := decide_eq_true hgo
      obtain ⟨o, ho⟩ : ∃ x, x = oldB xa T 0 nw := ⟨_, rfl⟩
      obtain ⟨y, hy⟩ : ∃ x, x = rdyB xa T N 0 nw := ⟨_, rfl⟩
      have HO := Lib.hid ho
      have HY := Lib.hid hy
      have HDO := Lib.hid (show decide (T ≤ nw - xa) = o from by rw [ho]; unfold oldB; exact decide_eq_decide.2 (by unfold OldP OpenP; omega))
      have HYE := Lib.hid (show y = (!o && decide (N ≤ nw)) from by
        rw [ho, hy]
        by_cases h1 : N ≤ nw <;> by_cases h2 : xa + T ≤ nw <;> simp [rdyB, RdyP, oldB, OldP, OpenP, h1, h2])
      clear ho hy
      go_upto_region 7 with fail
      go_cut [5, 6] (fun s5 s6 wx => s5 = .bool o ∧ s6 = .bool y ∧ Hid (Below wr.heap.size wr wx))
      case first =>
        have HKS := Lib.hid (fun w' (h : Below wr.heap.size wr w') => show Below wr.heap.size wr w' ∧ w'.cell? ⟨w.heap.size, 0, none⟩ = some (.int .i64 1) ∧ w'.cell? ⟨w.heap.size, 1, none⟩ = some (.int .i64 1) ∧ w'.cell? ⟨w.heap.size, 2, none⟩ = some (.int .i64 1) ∧ w'.cell? ⟨w.heap.size, 3, none⟩ = some (.string ⟨#[]⟩) ∧ w'.cell? ⟨w.heap.size, 4, none⟩ = some (.int .i64 xa) ∧ w'.cell? ⟨w.heap.size, 5, none⟩ = some (.int .i64 T) ∧ w'.cell? ⟨w.heap.size, 6, none⟩ = some (.int .i64 0) ∧ w'.cell? ⟨w.heap.size, 7, none⟩ = some (.int .i64 N) ∧ w'.cell? ⟨w.heap.size, 8, none⟩ = some (.int .i64 0) from ⟨h, (HBX.out.below h).c0, (HBX.out.below h).c1, (HBX.out.below h).c2, (HBX.out.below h).c3, (HBX.out.below h).c4, (HBX.out.below h).c5, (HBX.out.below h).c6, (HBX.out.below h).c7, (HBX.out.below h).c8⟩)
        have HD0 := Lib.hid (show Below wr.heap.size wr wr.drew from below_drewE (Below.refl _ _))
        go_region_held3 (fun w' => Below wr.heap.size wr w' ∧ w'.cell? ⟨w.heap.size, 0, none⟩ = some (.int .i64 1) ∧ w'.cell? ⟨w.heap.size, 1, none⟩ = some (.int .i64 1) ∧ w'.cell? ⟨w.heap.size, 2, none⟩ = some (.int .i64 1) ∧ w'.cell? ⟨w.heap.size, 3, none⟩ = some (.string ⟨#[]⟩) ∧ w'.cell? ⟨w.heap.size, 4, none⟩ = some (.int .i64 xa) ∧ w'.cell? ⟨w.heap.size, 5, none⟩ = some (.int .i64 T) ∧ w'.cell? ⟨w.heap.size, 6, none⟩ = some (.int .i64 0) ∧ w'.cell? ⟨w.heap.size, 7, none⟩ = some (.int .i64 N) ∧ w'.cell? ⟨w.heap.size, 8, none⟩ = some (.int .i64 0))
          (first
            | exact HKS.out _ HD0.out
            | exact HKS.out _ HL0.out
            | exact HKS.out _ HL1.out)
          (first
            | (go_at_call 13; refine (old_any 1 1 1 ⟨#[]⟩ xa T 0 N 0 nw _ HM.out).mono ?_; rintro e w5 ⟨rfl, hb⟩; rw [← HO.out]; have HL0 := Lib.hid (bAfter ((‹Below wr.heap.size wr _ ∧ _›).1) hb ((‹Below wr.heap.size wr _ ∧ _›).1).size); clear hb)
            | (go_at_call 12; refine (ready_any 1 1 1 ⟨#[]⟩ xa T 0 N 0 nw _ HM.out).mono ?_; rintro e w6 ⟨rfl, hb⟩; rw [← HY.out]; have HL1 := Lib.hid (bAfter ((‹Below wr.heap.size wr _ ∧ _›).1) hb ((‹Below wr.heap.size wr _ ∧ _›).1).size); clear hb))
        all_goals
          go_wp2_with fail
          go_meet
          first
            | exact ⟨rfl, rfl, HL1⟩
            | exact ⟨rfl, rfl, HL0⟩
      case rest =>
        obtain ⟨rfl, rfl, HX⟩ := hcut
        rename_i wc
        replace HBX := Lib.hid (HBX.out.below HX.out)
        replace HBL := Lib.hid (bAfter HBL.out HX.out HBL.out.size)
        clear HX cc0 cc1 cc2 cc3 cc4 cc5 cc6 cc7 cc8 ccl
        obtain ⟨cc0, cc1, cc2, cc3, cc4, cc5, cc6, cc7, cc8, ccl⟩ := HBX.out
        have hsub : IntKind.i64.wrap (nw - xa) = nw - xa := IntWalk.i64_in _ (by omega)
        have HVD := Lib.hid (B9.new wc 1 1 1 ⟨#[]⟩ xa T 0 N 3 25)
        have HBD := Lib.hid (bOne wc (.cells #[.int .i64 1, .int .i64 1, .int .i64 1, .string ⟨#[]⟩, .int .i64 xa, .int .i64 T, .int .i64 0, .int .i64 N, .int .i64 3] 25))
        go_upto_region 8 with fail
        go_cut [57] (fun s57 wx => s57 = .bool false ∧ wx = wc)
        case first =>
          have hdo := HDO.out
          have hye := HYE.out
          cases o with
          | true =>
            simp only [Bool.not_true, Bool.false_and] at hye
            subst hye
            go_wp2_with fail
            go_meet
            exact ⟨rfl, rfl⟩
          | false =>
            simp only [Bool.not_false, Bool.true_and] at hye
            by_cases hnn : N ≤ nw
            · have hdn : decide (N ≤ nw) = true := decide_eq_true hnn
              rw [hdn] at hye
              subst hye
              go_wp2_with fail
              go_meet
              exact ⟨rfl, rfl⟩
            · have hdn : decide (N ≤ nw) = false := decide_eq_false hnn
              rw [hdn] at hye
              subst hye
              go_wp2_with fail
              go_meet
              exact ⟨rfl, rfl⟩
        case rest =>
          obtain ⟨rfl, rfl⟩ := hcut
          go_upto_region 12 with fail
          obtain ⟨V, hV⟩ : ∃ V, V = wc.alloc (.cells #[.int .i64 1, .int .i64 1, .int .i64 1, .string ⟨#[]⟩, .int .i64 xa, .int .i64 T, .int .i64 0, .int .i64 N, .int .i64 3] 25) := ⟨_, rfl⟩
          rw [← hV] at HVD HBD ⊢
          have HWC := Lib.hid (show wc.heap.size < V.heap.size from HVD.out.lt)
          clear hV cc0 cc1 cc2 cc3 cc4 cc5 cc6 cc7 cc8 ccl
          replace HBX := Lib.hid (HBX.out.below HBD.out)
          replace HBL := Lib.hid (bAfter HBL.out HBD.out HBL.out.size)
          have HDX := Lib.hid HVD.out
          clear HVD HBD
          obtain ⟨dd0, dd1, dd2, dd3, dd4, dd5, dd6, dd7, dd8, ddl⟩ := HDX.out
          go_wp2_with fail
          refine (old_any 1 1 1 ⟨#[]⟩ xa T 0 N 3 nw _ HM.out).mono ?_
          rintro e w5 ⟨rfl, hb⟩
          rw [show oldB xa T 3 nw = false from decide_eq_false (by unfold OldP OpenP; omega)]
          clear dd0 dd1 dd2 dd3 dd4 dd5 dd6 dd7 dd8 ddl
          replace HBX := Lib.hid (HBX.out.below hb)
          replace HBL := Lib.hid (bAfter HBL.out hb HBL.out.size)
          replace HDX := Lib.hid (HDX.out.below hb)
          clear hb
          obtain ⟨dd0, dd1, dd2, dd3, dd4, dd5, dd6, dd7, dd8, ddl⟩ := HDX.out
          go_wp2_with fail
          refine (ready_any 1 1 1 ⟨#[]⟩ xa T 0 N 3 nw _ HM.out).mono ?_
          rintro e w6 ⟨rfl, hb⟩
          rw [show rdyB xa T N 3 nw = false from decide_eq_false (by unfold RdyP; omega)]
          clear dd0 dd1 dd2 dd3 dd4 dd5 dd6 dd7 dd8 ddl
          replace HBX := Lib.hid (HBX.out.below hb)
          replace HBL := Lib.hid (bAfter HBL.out hb HBL.out.size)
          clear hb HDX
          go_wp2_with fail
          go_roundw
          case rel => exact ⟨nw + 1, by go_num, by omega, by omega, HBL, HBX⟩
          case measure => simp [intOf]; omega
    · have hdl : decide (nw < xa + 300) = false := decide_eq_false hgo
      go_wp2_with fail
      refine (implOk_any 1 1 1 ⟨#[]⟩ xa T 0 N 0 _ (by decide)).mono ?_
      rintro e w5 ⟨rfl, hb⟩
      rw [eokB_yes (by unfold EOk; refine ⟨by omega, by omega, by omega, by omega, by omega, by omega, by decide, ?_⟩; omega)]
      go_wp2_with fail
      go_ret
      exact ⟨rfl, bAfter HBL.out hb HBL.out.size⟩
end Go.Proofs.Ytjcopkjapnieoaa.Evt
