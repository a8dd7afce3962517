/-
  The walk of the law FnKnocked.
-/
import Derived.Test.YtjcopkjapnieoaaEvLR
import Derived.Deep.DeepCutAuto
import Derived.Deep.RegionHeld3
namespace Go.Proofs.Ytjcopkjapnieoaa.Evt
open Go.RowKit Go.Proofs.Ytjcopkjapnieoaa.Kit Go.Proofs.Ytjcopkjapnieoaa.Draw
set_option linter.unusedVariables false
set_option linter.unusedSimpArgs false

set_option maxRecDepth 100000 in
set_option maxHeartbeats 4000000 in
theorem fnKnocked_walk (w : World) (a0 : Option Addr) (len0 cap0 : Nat) (zs : List Int) (hrow : IsRow .u8 w a0 len0 cap0 zs) :
    Calls Try.prog 4 #[.slice a0 len0 cap0] w fun e w' => e = .returned (.bool true) ∧ Below w.heap.size w w' := by
  have hcode := hrow.code
  have hle := hcode.le
  have HC := Lib.hid hcode
  have HLE := Lib.hid hle
  have HL := Lib.hid (Below.refl w.heap.size w)
  clear hrow hcode hle
  go_enter Try.func4, Try.ntmps4
  by_cases hbig : (1048576 : Int) < (len0 : Int)
  · go_wp2_with fail
    refine (big_yes _ a0 len0 cap0 HLE.out hbig).mono ?_
    rintro e w' ⟨rfl, rfl⟩
    go_wp2_with fail
    go_ret
    exact ⟨rfl, Below.refl _ _⟩
  go_wp2_with fail
  refine (big_no _ a0 len0 cap0 HLE.out (by omega)).mono ?_
  rintro e w' ⟨rfl, rfl⟩
  clear hbig
  go_wp2_with fail
  refine (drawKnocked_draw _ a0 len0 cap0 HC.out).mono ?_
  rintro e w1 ⟨⟨i, d, c, b, a, t, r, n, s, now, wt, hde, hn0, hn1, ht0, ht1, rfl⟩, hb⟩
  have HDE := Lib.hid hde
  have HRW := Lib.hid (show (Lit.int .i64 r).wf = true from i64_lit r (by unfold DEv at hde; unfold isI64; omega))
  obtain ⟨nw, hnw⟩ : ∃ x, x = now + wt := ⟨_, rfl⟩
  have hw64 : wrap64 (now + wt) = nw := by unfold wrap64; omega
  have hwi : IntKind.i64.wrap (now + wt) = nw := by rw [hnw]; exact IntWalk.i64_in _ (by omega)
  have H64 := Lib.hid hw64
  have HWI := Lib.hid hwi
  obtain ⟨R, hR⟩ : ∃ x, x = upT r := ⟨_, rfl⟩
  have HR := Lib.hid hR
  clear hde hnw hw64 hwi hR hn0 hn1 ht0 ht1
  replace HL := Lib.hid (bAfter HL.out hb HL.out.size)
  replace HL := Lib.hid (bAfter HL.out (bOne _ (.cells #[.int .i64 i, .int .i64 d, .int .i64 c, .string b, .int .i64 a, .int .i64 t, .int .i64 r, .int .i64 n, .int .i64 s] 25)) HL.out.size)
  have HE := Lib.hid (B9.new w1 i d c b a t r n s 25)
  replace HC := Lib.hid ((HC.out.below HL.out).up HL.out.size)
  obtain ⟨cc0, cc1, cc2, cc3, cc4, cc5, cc6, cc7, cc8, ccl⟩ := HE.out
  clear hb
  go_wp2_with fail
  refine (knocked_any i d c b a t r n s now wt HRW.out _).mono ?_
  rintro e w2 ⟨rfl, hb⟩
  rw [H64.out, ← HR.out]
  clear cc0 cc1 cc2 cc3 cc4 cc5 cc6 cc7 cc8 ccl
  replace HE := Lib.hid (HE.out.below hb)
  replace HL := Lib.hid (bAfter HL.out hb HL.out.size)
  replace HE := Lib.hid (HE.out.below (bOne _ (.cells #[.int .i64 i, .int .i64 d, .int .i64 c, .string b, .int .i64 a, .int .i64 t, .int .i64 R, .int .i64 nw, .int .i64 1] 25)))
  replace HL := Lib.hid (bAfter HL.out (bOne _ (.cells #[.int .i64 i, .int .i64 d, .int .i64 c, .string b, .int .i64 a, .int .i64 t, .int .i64 R, .int .i64 nw, .int .i64 1] 25)) HL.out.size)
  have HK := Lib.hid (B9.new w2 i d c b a t R nw 1 25)
  have hb2 := bAfter hb (bOne w2 (.cells #[.int .i64 i, .int .i64 d, .int .i64 c, .string b, .int .i64 a, .int .i64 t, .int .i64 R, .int .i64 nw, .int .i64 1] 25)) hb.size
  replace HC := Lib.hid ((HC.out.below hb2).up hb2.size)
  clear hb2
  clear hb
  go_wp2_with fail
  refine (drawBack_draw _ a0 len0 cap0 HC.out).mono ?_
  rintro e w3 ⟨⟨i2, d2, c2, b2, a2, t2, r2, n2, s2, hde2, rfl⟩, hb⟩
  clear hde2 HC
  replace HE := Lib.hid (HE.out.below hb)
  replace HK := Lib.hid (HK.out.below hb)
  replace HL := Lib.hid (bAfter HL.out hb HL.out.size)
  replace HE := Lib.hid (HE.out.below (bOne _ (.cells #[.int .i64 i2, .int .i64 d2, .int .i64 c2, .string b2, .int .i64 a2, .int .i64 t2, .int .i64 r2, .int .i64 n2, .int .i64 s2] 25)))
  replace HK := Lib.hid (HK.out.below (bOne _ (.cells #[.int .i64 i2, .int .i64 d2, .int .i64 c2, .string b2, .int .i64 a2, .int .i64 t2, .int .i64 r2, .int .i64 n2, .int .i64 s2] 25)))
  replace HL := Lib.hid (bAfter HL.out (bOne _ (.cells #[.int .i64 i2, .int .i64 d2, .int .i64 c2, .string b2, .int .i64 a2, .int .i64 t2, .int .i64 r2, .int .i64 n2, .int .i64 s2] 25)) HL.out.size)
  have HB := Lib.hid (B9.new w3 i2 d2 c2 b2 a2 t2 r2 n2 s2 25)
  clear hb
  obtain ⟨q, hq⟩ : ∃ x, x = bk s2 := ⟨_, rfl⟩
  have HQ := Lib.hid hq
  clear hq
  go_upto_region 6 with fail
  obtain ⟨V, hV⟩ : ∃ V, V = w3.alloc (.cells #[.int .i64 i2, .int .i64 d2, .int .i64 c2, .string b2, .int .i64 a2, .int .i64 t2, .int .i64 r2, .int .i64 n2, .int .i64 s2] 25) := ⟨_, rfl⟩
  rw [← hV] at HE HK HB HL ⊢
  clear hV
  go_cut [35] (fun s35 wx => s35 = .bool false ∧ Hid (Below V.heap.size V wx))
  case first =>
    have HKS := Lib.hid (fun w' (h : Below V.heap.size V w') => show Below V.heap.size V w' ∧ w'.cell? ⟨w1.heap.size, 0, none⟩ = some (.int .i64 i) ∧ w'.cell? ⟨w1.heap.size, 1, none⟩ = some (.int .i64 d) ∧ w'.cell? ⟨w1.heap.size, 2, none⟩ = some (.int .i64 c) ∧ w'.cell? ⟨w1.heap.size, 3, none⟩ = some (.string b) ∧ w'.cell? ⟨w1.heap.size, 4, none⟩ = some (.int .i64 a) ∧ w'.cell? ⟨w1.heap.size, 5, none⟩ = some (.int .i64 t) ∧ w'.cell? ⟨w1.heap.size, 6, none⟩ = some (.int .i64 r) ∧ w'.cell? ⟨w1.heap.size, 7, none⟩ = some (.int .i64 n) ∧ w'.cell? ⟨w1.heap.size, 8, none⟩ = some (.int .i64 s) ∧ w'.cell? ⟨w2.heap.size, 0, none⟩ = some (.int .i64 i) ∧ w'.cell? ⟨w2.heap.size, 1, none⟩ = some (.int .i64 d) ∧ w'.cell? ⟨w2.heap.size, 2, none⟩ = some (.int .i64 c) ∧ w'.cell? ⟨w2.heap.size, 3, none⟩ = some (.string b) ∧ w'.cell? ⟨w2.heap.size, 4, none⟩ = some (.int .i64 a) ∧ w'.cell? ⟨w2.heap.size, 5, none⟩ = some (.int .i64 t) ∧ w'.cell? ⟨w2.heap.size, 6, none⟩ = some (.int .i64 R) ∧ w'.cell? ⟨w2.heap.size, 7, none⟩ = some (.int .i64 nw) ∧ w'.cell? ⟨w2.heap.size, 8, none⟩ = some (.int .i64 1) ∧ w'.cell? ⟨w3.heap.size, 0, none⟩ = some (.int .i64 i2) ∧ w'.cell? ⟨w3.heap.size, 1, none⟩ = some (.int .i64 d2) ∧ w'.cell? ⟨w3.heap.size, 2, none⟩ = some (.int .i64 c2) ∧ w'.cell? ⟨w3.heap.size, 3, none⟩ = some (.string b2) ∧ w'.cell? ⟨w3.heap.size, 4, none⟩ = some (.int .i64 a2) ∧ w'.cell? ⟨w3.heap.size, 5, none⟩ = some (.int .i64 t2) ∧ w'.cell? ⟨w3.heap.size, 6, none⟩ = some (.int .i64 r2) ∧ w'.cell? ⟨w3.heap.size, 7, none⟩ = some (.int .i64 n2) ∧ w'.cell? ⟨w3.heap.size, 8, none⟩ = some (.int .i64 s2) from ⟨h, (HE.out.below h).c0, (HE.out.below h).c1, (HE.out.below h).c2, (HE.out.below h).c3, (HE.out.below h).c4, (HE.out.below h).c5, (HE.out.below h).c6, (HE.out.below h).c7, (HE.out.below h).c8, (HK.out.below h).c0, (HK.out.below h).c1, (HK.out.below h).c2, (HK.out.below h).c3, (HK.out.below h).c4, (HK.out.below h).c5, (HK.out.below h).c6, (HK.out.below h).c7, (HK.out.below h).c8, (HB.out.below h).c0, (HB.out.below h).c1, (HB.out.below h).c2, (HB.out.below h).c3, (HB.out.below h).c4, (HB.out.below h).c5, (HB.out.below h).c6, (HB.out.below h).c7, (HB.out.below h).c8⟩)
    have HD0 := Lib.hid (show Below V.heap.size V V.drew from below_drewE (Below.refl _ _))
    go_region_held3 (fun w' => Below V.heap.size V w' ∧ w'.cell? ⟨w1.heap.size, 0, none⟩ = some (.int .i64 i) ∧ w'.cell? ⟨w1.heap.size, 1, none⟩ = some (.int .i64 d) ∧ w'.cell? ⟨w1.heap.size, 2, none⟩ = some (.int .i64 c) ∧ w'.cell? ⟨w1.heap.size, 3, none⟩ = some (.string b) ∧ w'.cell? ⟨w1.heap.size, 4, none⟩ = some (.int .i64 a) ∧ w'.cell? ⟨w1.heap.size, 5, none⟩ = some (.int .i64 t) ∧ w'.cell? ⟨w1.heap.size, 6, none⟩ = some (.int .i64 r) ∧ w'.cell? ⟨w1.heap.size, 7, none⟩ = some (.int .i64 n) ∧ w'.cell? ⟨w1.heap.size, 8, none⟩ = some (.int .i64 s) ∧ w'.cell? ⟨w2.heap.size, 0, none⟩ = some (.int .i64 i) ∧ w'.cell? ⟨w2.heap.size, 1, none⟩ = some (.int .i64 d) ∧ w'.cell? ⟨w2.heap.size, 2, none⟩ = some (.int .i64 c) ∧ w'.cell? ⟨w2.heap.size, 3, none⟩ = some (.string b) ∧ w'.cell? ⟨w2.heap.size, 4, none⟩ = some (.int .i64 a) ∧ w'.cell? ⟨w2.heap.size, 5, none⟩ = some (.int .i64 t) ∧ w'.cell? ⟨w2.heap.size, 6, none⟩ = some (.int .i64 R) ∧ w'.cell? ⟨w2.heap.size, 7, none⟩ = some (.int .i64 nw) ∧ w'.cell? ⟨w2.heap.size, 8, none⟩ = some (.int .i64 1) ∧ w'.cell? ⟨w3.heap.size, 0, none⟩ = some (.int .i64 i2) ∧ w'.cell? ⟨w3.heap.size, 1, none⟩ = some (.int .i64 d2) ∧ w'.cell? ⟨w3.heap.size, 2, none⟩ = some (.int .i64 c2) ∧ w'.cell? ⟨w3.heap.size, 3, none⟩ = some (.string b2) ∧ w'.cell? ⟨w3.heap.size, 4, none⟩ = some (.int .i64 a2) ∧ w'.cell? ⟨w3.heap.size, 5, none⟩ = some (.int .i64 t2) ∧ w'.cell? ⟨w3.heap.size, 6, none⟩ = some (.int .i64 r2) ∧ w'.cell? ⟨w3.heap.size, 7, none⟩ = some (.int .i64 n2) ∧ w'.cell? ⟨w3.heap.size, 8, none⟩ = some (.int .i64 s2))
      (first
        | exact HKS.out _ HD0.out
        | exact HKS.out _ HL0.out
        | exact HKS.out _ HL1.out
        | exact HKS.out _ HL2.out)
      (first
        | (go_at_call 21; refine (specKnocked_any i d c b a t r n s now wt HRW.out _).mono ?_; rintro e w5 ⟨rfl, hb⟩; rw [H64.out, ← HR.out]; have HL0 := Lib.hid (bAfter ((‹Below V.heap.size V _ ∧ _›).1) hb ((‹Below V.heap.size V _ ∧ _›).1).size); clear hb)
        | (go_at_call 22; refine (back_any i2 d2 c2 b2 a2 t2 r2 n2 s2 _).mono ?_; rintro e w6 ⟨rfl, hb⟩; rw [← HQ.out]; have HL1 := Lib.hid (bAfter ((‹Below V.heap.size V _ ∧ _›).1) hb ((‹Below V.heap.size V _ ∧ _›).1).size); clear hb)
        | (go_at_call 23; refine (specBack_any i2 d2 c2 b2 a2 t2 r2 n2 s2 _).mono ?_; rintro e w7 ⟨rfl, hb⟩; rw [← HQ.out]; have HL2 := Lib.hid (bAfter ((‹Below V.heap.size V _ ∧ _›).1) hb ((‹Below V.heap.size V _ ∧ _›).1).size); clear hb))
    all_goals
      go_wp2_with fail
      go_meet
      first
        | exact ⟨rfl, HL2⟩
        | exact ⟨rfl, HL1⟩
  case rest =>
    obtain ⟨rfl, HBX⟩ := hcut
    rename_i wc
    have hb := HBX.out
    replace HE := Lib.hid (HE.out.below hb)
    replace HK := Lib.hid (HK.out.below hb)
    replace HL := Lib.hid (bAfter HL.out hb HL.out.size)
    clear hb HBX HB
    obtain ⟨cc0, cc1, cc2, cc3, cc4, cc5, cc6, cc7, cc8, ccl⟩ := HK.out
    go_wp2_with fail
    refine (back_any i d c b a t R nw 1 _).mono ?_
    rintro e w5 ⟨rfl, hb⟩
    rw [show bk 1 = 0 from rfl]
    clear cc0 cc1 cc2 cc3 cc4 cc5 cc6 cc7 cc8 ccl
    replace HE := Lib.hid (HE.out.below hb)
    replace HK := Lib.hid (HK.out.below hb)
    replace HL := Lib.hid (bAfter HL.out hb HL.out.size)
    replace HE := Lib.hid (HE.out.below (bOne _ (.cells #[.int .i64 i, .int .i64 d, .int .i64 c, .string b, .int .i64 a, .int .i64 t, .int .i64 R, .int .i64 nw, .int .i64 0] 25)))
    replace HK := Lib.hid (HK.out.below (bOne _ (.cells #[.int .i64 i, .int .i64 d, .int .i64 c, .string b, .int .i64 a, .int .i64 t, .int .i64 R, .int .i64 nw, .int .i64 0] 25)))
    replace HL := Lib.hid (bAfter HL.out (bOne _ (.cells #[.int .i64 i, .int .i64 d, .int .i64 c, .string b, .int .i64 a, .int .i64 t, .int .i64 R, .int .i64 nw, .int .i64 0] 25)) HL.out.size)
    have HD := Lib.hid (B9.new w5 i d c b a t R nw 0 25)
    clear hb
    go_upto_region 9 with fail
    obtain ⟨V2, hV2⟩ : ∃ V, V = w5.alloc (.cells #[.int .i64 i, .int .i64 d, .int .i64 c, .string b, .int .i64 a, .int .i64 t, .int .i64 R, .int .i64 nw, .int .i64 0] 25) := ⟨_, rfl⟩
    rw [← hV2] at HE HK HD HL ⊢
    clear hV2
    have HM := Lib.hid (show Sml a t from by have := HDE.out; unfold DEv at this; unfold Sml; omega)
    have HR1 := Lib.hid (show rdyB a t nw 1 nw = false from decide_eq_false (by unfold RdyP; omega))
    have HKS := Lib.hid (fun w' (h : Below V2.heap.size V2 w') => show Below V2.heap.size V2 w' ∧ w'.cell? ⟨w1.heap.size, 0, none⟩ = some (.int .i64 i) ∧ w'.cell? ⟨w1.heap.size, 1, none⟩ = some (.int .i64 d) ∧ w'.cell? ⟨w1.heap.size, 2, none⟩ = some (.int .i64 c) ∧ w'.cell? ⟨w1.heap.size, 3, none⟩ = some (.string b) ∧ w'.cell? ⟨w1.heap.size, 4, none⟩ = some (.int .i64 a) ∧ w'.cell? ⟨w1.heap.size, 5, none⟩ = some (.int .i64 t) ∧ w'.cell? ⟨w1.heap.size, 6, none⟩ = some (.int .i64 r) ∧ w'.cell? ⟨w1.heap.size, 7, none⟩ = some (.int .i64 n) ∧ w'.cell? ⟨w1.heap.size, 8, none⟩ = some (.int .i64 s) ∧ w'.cell? ⟨w2.heap.size, 0, none⟩ = some (.int .i64 i) ∧ w'.cell? ⟨w2.heap.size, 1, none⟩ = some (.int .i64 d) ∧ w'.cell? ⟨w2.heap.size, 2, none⟩ = some (.int .i64 c) ∧ w'.cell? ⟨w2.heap.size, 3, none⟩ = some (.string b) ∧ w'.cell? ⟨w2.heap.size, 4, none⟩ = some (.int .i64 a) ∧ w'.cell? ⟨w2.heap.size, 5, none⟩ = some (.int .i64 t) ∧ w'.cell? ⟨w2.heap.size, 6, none⟩ = some (.int .i64 R) ∧ w'.cell? ⟨w2.heap.size, 7, none⟩ = some (.int .i64 nw) ∧ w'.cell? ⟨w2.heap.size, 8, none⟩ = some (.int .i64 1) ∧ w'.cell? ⟨w5.heap.size, 0, none⟩ = some (.int .i64 i) ∧ w'.cell? ⟨w5.heap.size, 1, none⟩ = some (.int .i64 d) ∧ w'.cell? ⟨w5.heap.size, 2, none⟩ = some (.int .i64 c) ∧ w'.cell? ⟨w5.heap.size, 3, none⟩ = some (.string b) ∧ w'.cell? ⟨w5.heap.size, 4, none⟩ = some (.int .i64 a) ∧ w'.cell? ⟨w5.heap.size, 5, none⟩ = some (.int .i64 t) ∧ w'.cell? ⟨w5.heap.size, 6, none⟩ = some (.int .i64 R) ∧ w'.cell? ⟨w5.heap.size, 7, none⟩ = some (.int .i64 nw) ∧ w'.cell? ⟨w5.heap.size, 8, none⟩ = some (.int .i64 0) from ⟨h, (HE.out.below h).c0, (HE.out.below h).c1, (HE.out.below h).c2, (HE.out.below h).c3, (HE.out.below h).c4, (HE.out.below h).c5, (HE.out.below h).c6, (HE.out.below h).c7, (HE.out.below h).c8, (HK.out.below h).c0, (HK.out.below h).c1, (HK.out.below h).c2, (HK.out.below h).c3, (HK.out.below h).c4, (HK.out.below h).c5, (HK.out.below h).c6, (HK.out.below h).c7, (HK.out.below h).c8, (HD.out.below h).c0, (HD.out.below h).c1, (HD.out.below h).c2, (HD.out.below h).c3, (HD.out.below h).c4, (HD.out.below h).c5, (HD.out.below h).c6, (HD.out.below h).c7, (HD.out.below h).c8⟩)
    have HW0 := Lib.hid (show Below V2.heap.size V2 V2.drew from below_drewE (Below.refl _ _))
    have hwi := HWI.out
    by_cases hbig : 100000 ≤ r
    · have hdr : decide (100000 ≤ r) = true := decide_eq_true hbig
      by_cases hx : a + t ≤ nw
      · have hrd : rdyB a t nw 0 nw = false := decide_eq_false (fun h => h.2.2 hx)
        have hod : oldB a t 0 nw = true := decide_eq_true ⟨.inl rfl, hx⟩
        refine wp_region_held_drew (S := fun w' => Below V2.heap.size V2 w' ∧ w'.cell? ⟨w1.heap.size, 0, none⟩ = some (.int .i64 i) ∧ w'.cell? ⟨w1.heap.size, 1, none⟩ = some (.int .i64 d) ∧ w'.cell? ⟨w1.heap.size, 2, none⟩ = some (.int .i64 c) ∧ w'.cell? ⟨w1.heap.size, 3, none⟩ = some (.string b) ∧ w'.cell? ⟨w1.heap.size, 4, none⟩ = some (.int .i64 a) ∧ w'.cell? ⟨w1.heap.size, 5, none⟩ = some (.int .i64 t) ∧ w'.cell? ⟨w1.heap.size, 6, none⟩ = some (.int .i64 r) ∧ w'.cell? ⟨w1.heap.size, 7, none⟩ = some (.int .i64 n) ∧ w'.cell? ⟨w1.heap.size, 8, none⟩ = some (.int .i64 s) ∧ w'.cell? ⟨w2.heap.size, 0, none⟩ = some (.int .i64 i) ∧ w'.cell? ⟨w2.heap.size, 1, none⟩ = some (.int .i64 d) ∧ w'.cell? ⟨w2.heap.size, 2, none⟩ = some (.int .i64 c) ∧ w'.cell? ⟨w2.heap.size, 3, none⟩ = some (.string b) ∧ w'.cell? ⟨w2.heap.size, 4, none⟩ = some (.int .i64 a) ∧ w'.cell? ⟨w2.heap.size, 5, none⟩ = some (.int .i64 t) ∧ w'.cell? ⟨w2.heap.size, 6, none⟩ = some (.int .i64 R) ∧ w'.cell? ⟨w2.heap.size, 7, none⟩ = some (.int .i64 nw) ∧ w'.cell? ⟨w2.heap.size, 8, none⟩ = some (.int .i64 1) ∧ w'.cell? ⟨w5.heap.size, 0, none⟩ = some (.int .i64 i) ∧ w'.cell? ⟨w5.heap.size, 1, none⟩ = some (.int .i64 d) ∧ w'.cell? ⟨w5.heap.size, 2, none⟩ = some (.int .i64 c) ∧ w'.cell? ⟨w5.heap.size, 3, none⟩ = some (.string b) ∧ w'.cell? ⟨w5.heap.size, 4, none⟩ = some (.int .i64 a) ∧ w'.cell? ⟨w5.heap.size, 5, none⟩ = some (.int .i64 t) ∧ w'.cell? ⟨w5.heap.size, 6, none⟩ = some (.int .i64 R) ∧ w'.cell? ⟨w5.heap.size, 7, none⟩ = some (.int .i64 nw) ∧ w'.cell? ⟨w5.heap.size, 8, none⟩ = some (.int .i64 0)) (by kernel_rfl) (HKS.out _ HW0.out) (fun hHeld => ?_)
        refine wpAnyH_take (i := 0) (oi := { dst := some _, op := _, type := _, pos := _, after := _, guard := _ }) (v := ?_) rfl (by kernel_rfl) (by kernel_rfl) (by kernel_rfl) (fun _ _ _ h => h) ?_ (by assumption) ?_
        rotate_left 1
        focus (refine Or.inl ⟨by rfl, ?_⟩; intro wq hSw; go_simp; try first | with_reducible rfl | (simp; done))
        try simp only [Act.put, List.setIfInBounds_toArray, List.set_cons_zero, List.set_cons_succ]
        refine wpAnyH_take (i := 1) (oi := { dst := some _, op := _, type := _, pos := _, after := _, guard := _ }) (v := (.int .i64 1)) rfl (by kernel_rfl) (by kernel_rfl) (by kernel_rfl) (fun _ _ _ h => h) ?_ (by assumption) ?_
        focus (refine Or.inl ⟨by rfl, ?_⟩; intro wq hSw; obtain ⟨hSb, se0, se1, se2, se3, se4, se5, se6, se7, se8, sk0, sk1, sk2, sk3, sk4, sk5, sk6, sk7, sk8, sd0, sd1, sd2, sd3, sd4, sd5, sd6, sd7, sd8⟩ := hSw; go_simp; try first | with_reducible rfl | (simp; done))
        try simp only [Act.put, List.setIfInBounds_toArray, List.set_cons_zero, List.set_cons_succ]
        refine wpAnyH_take (i := 2) (oi := { dst := some _, op := _, type := _, pos := _, after := _, guard := _ }) (v := (.bool true)) rfl (by kernel_rfl) (by kernel_rfl) (by kernel_rfl) (fun _ _ _ h => h) ?_ (by assumption) ?_
        focus (refine Or.inl ⟨by rfl, ?_⟩; intro wq hSw; go_simp; try first | with_reducible rfl | (simp; done))
        try simp only [Act.put, List.setIfInBounds_toArray, List.set_cons_zero, List.set_cons_succ]
        refine wpAnyH_take (i := 3) (oi := { dst := some _, op := _, type := _, pos := _, after := _, guard := _ }) (v := (.bool true)) rfl (by kernel_rfl) (by kernel_rfl) (by kernel_rfl) (fun _ _ _ h => h) ?_ (by assumption) ?_
        focus (refine Or.inl ⟨by rfl, ?_⟩; intro wq hSw; go_simp; try first | with_reducible rfl | (simp; done))
        try simp only [Act.put, List.setIfInBounds_toArray, List.set_cons_zero, List.set_cons_succ]
        refine wpAnyH_take (i := 4) (oi := { dst := some _, op := _, type := _, pos := _, after := _, guard := _ }) (v := ?_) rfl (by kernel_rfl) (by kernel_rfl) (by kernel_rfl) (fun _ _ _ h => h) ?_ (by assumption) ?_
        rotate_left 1
        focus (refine Or.inl ⟨by rfl, ?_⟩; intro wq hSw; go_simp; try first | with_reducible rfl | (simp; done))
        try simp only [Act.put, List.setIfInBounds_toArray, List.set_cons_zero, List.set_cons_succ]
        refine wpAnyH_take (i := 5) (oi := { dst := some _, op := _, type := _, pos := _, after := _, guard := _ }) (v := (.int .i64 nw)) rfl (by kernel_rfl) (by kernel_rfl) (by kernel_rfl) (fun _ _ _ h => h) ?_ (by assumption) ?_
        focus (refine Or.inl ⟨by rfl, ?_⟩; intro wq hSw; obtain ⟨hSb, se0, se1, se2, se3, se4, se5, se6, se7, se8, sk0, sk1, sk2, sk3, sk4, sk5, sk6, sk7, sk8, sd0, sd1, sd2, sd3, sd4, sd5, sd6, sd7, sd8⟩ := hSw; go_simp; try first | with_reducible rfl | (simp; done))
        try simp only [Act.put, List.setIfInBounds_toArray, List.set_cons_zero, List.set_cons_succ]
        refine wpAnyH_take (i := 6) (oi := { dst := some _, op := _, type := _, pos := _, after := _, guard := _ }) (v := ?_) rfl (by kernel_rfl) (by kernel_rfl) (by kernel_rfl) (fun _ _ _ h => h) ?_ (by assumption) ?_
        rotate_left 1
        focus (refine Or.inl ⟨by rfl, ?_⟩; intro wq hSw; go_simp; try first | with_reducible rfl | (simp; done))
        try simp only [Act.put, List.setIfInBounds_toArray, List.set_cons_zero, List.set_cons_succ]
        refine wpAnyH_take (i := 7) (oi := { dst := some _, op := _, type := _, pos := _, after := _, guard := _ }) (v := ?_) rfl (by kernel_rfl) (by kernel_rfl) (by kernel_rfl) (fun _ _ _ h => h) ?_ (by assumption) ?_
        rotate_left 1
        focus (refine Or.inl ⟨by rfl, ?_⟩; intro wq hSw; go_simp; try first | with_reducible rfl | (simp; done))
        try simp only [Act.put, List.setIfInBounds_toArray, List.set_cons_zero, List.set_cons_succ]
        refine wpAnyH_take (i := 8) (oi := { dst := some _, op := _, type := _, pos := _, after := _, guard := _ }) (v := (.int .i64 nw)) rfl (by kernel_rfl) (by kernel_rfl) (by kernel_rfl) (fun _ _ _ h => h) ?_ (by assumption) ?_
        focus (refine Or.inl ⟨by rfl, ?_⟩; intro wq hSw; go_simp; try first | with_reducible rfl | (simp [hwi]; done))
        try simp only [Act.put, List.setIfInBounds_toArray, List.set_cons_zero, List.set_cons_succ]
        refine wpAnyH_take (i := 9) (oi := { dst := some _, op := _, type := _, pos := _, after := _, guard := _ }) (v := (.bool true)) rfl (by kernel_rfl) (by kernel_rfl) (by kernel_rfl) (fun _ _ _ h => h) ?_ (by assumption) ?_
        focus (refine Or.inl ⟨by rfl, ?_⟩; intro wq hSw; go_simp; try first | with_reducible rfl | (simp; done))
        try simp only [Act.put, List.setIfInBounds_toArray, List.set_cons_zero, List.set_cons_succ]
        refine wpAnyH_take (i := 10) (oi := { dst := some _, op := _, type := _, pos := _, after := _, guard := _ }) (v := (.bool true)) rfl (by kernel_rfl) (by kernel_rfl) (by kernel_rfl) (fun _ _ _ h => h) ?_ (by assumption) ?_
        focus (refine Or.inl ⟨by rfl, ?_⟩; intro wq hSw; go_simp; try first | with_reducible rfl | (simp; done))
        try simp only [Act.put, List.setIfInBounds_toArray, List.set_cons_zero, List.set_cons_succ]
        refine wpAnyH_take (i := 11) (oi := { dst := some _, op := _, type := _, pos := _, after := _, guard := _ }) (v := (.bool true)) rfl (by kernel_rfl) (by kernel_rfl) (by kernel_rfl) (fun _ _ _ h => h) ?_ (by assumption) ?_
        focus (refine Or.inl ⟨by rfl, ?_⟩; intro wq hSw; go_simp; try first | with_reducible rfl | (simp; done))
        try simp only [Act.put, List.setIfInBounds_toArray, List.set_cons_zero, List.set_cons_succ]
        refine wpAnyH_take (i := 12) (oi := { dst := some _, op := _, type := _, pos := _, after := _, guard := _ }) (v := (.agg #[.int .i64 i, .int .i64 d, .int .i64 c, .string b, .int .i64 a, .int .i64 t, .int .i64 R, .int .i64 nw, .int .i64 1])) rfl (by kernel_rfl) (by kernel_rfl) (by kernel_rfl) (fun _ _ _ h => h) ?_ (by assumption) ?_
        focus (refine Or.inl ⟨by rfl, ?_⟩; intro wq hSw; obtain ⟨hSb, se0, se1, se2, se3, se4, se5, se6, se7, se8, sk0, sk1, sk2, sk3, sk4, sk5, sk6, sk7, sk8, sd0, sd1, sd2, sd3, sd4, sd5, sd6, sd7, sd8⟩ := hSw; go_simp; try first | with_reducible rfl | (simp; done))
        try simp only [Act.put, List.setIfInBounds_toArray, List.set_cons_zero, List.set_cons_succ]
        refine wpAnyH_take (i := 13) (oi := { dst := some _, op := _, type := _, pos := _, after := _, guard := _ }) (v := ?_) rfl (by kernel_rfl) (by kernel_rfl) (by kernel_rfl) (fun _ _ _ h => h) ?_ (by assumption) ?_
        rotate_left 1
        focus (refine Or.inl ⟨by rfl, ?_⟩; intro wq hSw; go_simp; try first | with_reducible rfl | (simp; done))
        try simp only [Act.put, List.setIfInBounds_toArray, List.set_cons_zero, List.set_cons_succ]
        refine wpAnyH_take (i := 14) (oi := { dst := some _, op := _, type := _, pos := _, after := _, guard := _ }) (v := ?_) rfl (by kernel_rfl) (by kernel_rfl) (by kernel_rfl) (fun _ _ _ h => h) ?_ (by assumption) ?_
        rotate_left 1
        focus (refine Or.inl ⟨by rfl, ?_⟩; intro wq hSw; go_simp; try first | with_reducible rfl | (simp; done))
        try simp only [Act.put, List.setIfInBounds_toArray, List.set_cons_zero, List.set_cons_succ]
        refine wpAnyH_take (i := 15) (oi := { dst := some _, op := _, type := _, pos := _, after := _, guard := _ }) (v := (.int .i64 nw)) rfl (by kernel_rfl) (by kernel_rfl) (by kernel_rfl) (fun _ _ _ h => h) ?_ (by assumption) ?_
        focus (refine Or.inl ⟨by rfl, ?_⟩; intro wq hSw; go_simp; try first | with_reducible rfl | (simp [hwi]; done))
        try simp only [Act.put, List.setIfInBounds_toArray, List.set_cons_zero, List.set_cons_succ]
        refine wpAnyH_ready (rs := [16]) (by kernel_rfl) (by simp) ?_
        refine AllReadyH.cons rfl (fun KK hKK => ?_) AllReadyH.nil
        go_simp
        refine (ready_any i d c b a t R nw 1 nw _ HM.out).mono ?_
        rintro e w6 ⟨rfl, hb⟩
        rw [HR1.out]
        replace HW0 := Lib.hid (bAfter HW0.out hb HW0.out.size)
        clear hb
        dsimp only
        refine hKK.out _ _ (HKS.out _ HW0.out) (fun hHeld => ?_)
        clear hKK
        try simp only [Act.put, List.setIfInBounds_toArray, List.set_cons_zero, List.set_cons_succ]
        refine wpAnyH_take (i := 17) (oi := { dst := some _, op := _, type := _, pos := _, after := _, guard := _ }) (v := (.bool true)) rfl (by kernel_rfl) (by kernel_rfl) (by kernel_rfl) (fun _ _ _ h => h) ?_ (by assumption) ?_
        focus (refine Or.inl ⟨by rfl, ?_⟩; intro wq hSw; go_simp; try first | with_reducible rfl | (simp; done))
        try simp only [Act.put, List.setIfInBounds_toArray, List.set_cons_zero, List.set_cons_succ]
        refine wpAnyH_take (i := 18) (oi := { dst := some _, op := _, type := _, pos := _, after := _, guard := _ }) (v := (.bool true)) rfl (by kernel_rfl) (by kernel_rfl) (by kernel_rfl) (fun _ _ _ h => h) ?_ (by assumption) ?_
        focus (refine Or.inl ⟨by rfl, ?_⟩; intro wq hSw; go_simp; try first | with_reducible rfl | (simp; done))
        try simp only [Act.put, List.setIfInBounds_toArray, List.set_cons_zero, List.set_cons_succ]
        refine wpAnyH_take (i := 19) (oi := { dst := some _, op := _, type := _, pos := _, after := _, guard := _ }) (v := (.bool true)) rfl (by kernel_rfl) (by kernel_rfl) (by kernel_rfl) (fun _ _ _ h => h) ?_ (by assumption) ?_
        focus (refine Or.inl ⟨by rfl, ?_⟩; intro wq hSw; go_simp; try first | with_reducible rfl | (simp; done))
        try simp only [Act.put, List.setIfInBounds_toArray, List.set_cons_zero, List.set_cons_succ]
        refine wpAnyH_take (i := 20) (oi := { dst := some _, op := _, type := _, pos := _, after := _, guard := _ }) (v := ?_) rfl (by kernel_rfl) (by kernel_rfl) (by kernel_rfl) (fun _ _ _ h => h) ?_ (by assumption) ?_
        rotate_left 1
        focus (refine Or.inl ⟨by rfl, ?_⟩; intro wq hSw; go_simp; try first | with_reducible rfl | (simp; done))
        try simp only [Act.put, List.setIfInBounds_toArray, List.set_cons_zero, List.set_cons_succ]
        refine wpAnyH_take (i := 21) (oi := { dst := some _, op := _, type := _, pos := _, after := _, guard := _ }) (v := (.int .i64 0)) rfl (by kernel_rfl) (by kernel_rfl) (by kernel_rfl) (fun _ _ _ h => h) ?_ (by assumption) ?_
        focus (refine Or.inl ⟨by rfl, ?_⟩; intro wq hSw; obtain ⟨hSb, se0, se1, se2, se3, se4, se5, se6, se7, se8, sk0, sk1, sk2, sk3, sk4, sk5, sk6, sk7, sk8, sd0, sd1, sd2, sd3, sd4, sd5, sd6, sd7, sd8⟩ := hSw; go_simp; try first | with_reducible rfl | (simp; done))
        try simp only [Act.put, List.setIfInBounds_toArray, List.set_cons_zero, List.set_cons_succ]
        refine wpAnyH_take (i := 22) (oi := { dst := some _, op := _, type := _, pos := _, after := _, guard := _ }) (v := (.bool true)) rfl (by kernel_rfl) (by kernel_rfl) (by kernel_rfl) (fun _ _ _ h => h) ?_ (by assumption) ?_
        focus (refine Or.inl ⟨by rfl, ?_⟩; intro wq hSw; go_simp; try first | with_reducible rfl | (simp; done))
        try simp only [Act.put, List.setIfInBounds_toArray, List.set_cons_zero, List.set_cons_succ]
        refine wpAnyH_take (i := 23) (oi := { dst := some _, op := _, type := _, pos := _, after := _, guard := _ }) (v := (.bool true)) rfl (by kernel_rfl) (by kernel_rfl) (by kernel_rfl) (fun _ _ _ h => h) ?_ (by assumption) ?_
        focus (refine Or.inl ⟨by rfl, ?_⟩; intro wq hSw; go_simp; try first | with_reducible rfl | (simp; done))
        try simp only [Act.put, List.setIfInBounds_toArray, List.set_cons_zero, List.set_cons_succ]
        refine wpAnyH_take (i := 24) (oi := { dst := some _, op := _, type := _, pos := _, after := _, guard := _ }) (v := (.bool true)) rfl (by kernel_rfl) (by kernel_rfl) (by kernel_rfl) (fun _ _ _ h => h) ?_ (by assumption) ?_
        focus (refine Or.inl ⟨by rfl, ?_⟩; intro wq hSw; go_simp; try first | with_reducible rfl | (simp; done))
        try simp only [Act.put, List.setIfInBounds_toArray, List.set_cons_zero, List.set_cons_succ]
        refine wpAnyH_take (i := 25) (oi := { dst := some _, op := _, type := _, pos := _, after := _, guard := _ }) (v := ?_) rfl (by kernel_rfl) (by kernel_rfl) (by kernel_rfl) (fun _ _ _ h => h) ?_ (by assumption) ?_
        rotate_left 1
        focus (refine Or.inl ⟨by rfl, ?_⟩; intro wq hSw; go_simp; try first | with_reducible rfl | (simp; done))
        try simp only [Act.put, List.setIfInBounds_toArray, List.set_cons_zero, List.set_cons_succ]
        refine wpAnyH_take (i := 26) (oi := { dst := some _, op := _, type := _, pos := _, after := _, guard := _ }) (v := (.int .i64 r)) rfl (by kernel_rfl) (by kernel_rfl) (by kernel_rfl) (fun _ _ _ h => h) ?_ (by assumption) ?_
        focus (refine Or.inl ⟨by rfl, ?_⟩; intro wq hSw; obtain ⟨hSb, se0, se1, se2, se3, se4, se5, se6, se7, se8, sk0, sk1, sk2, sk3, sk4, sk5, sk6, sk7, sk8, sd0, sd1, sd2, sd3, sd4, sd5, sd6, sd7, sd8⟩ := hSw; go_simp; try first | with_reducible rfl | (simp; done))
        try simp only [Act.put, List.setIfInBounds_toArray, List.set_cons_zero, List.set_cons_succ]
        refine wpAnyH_take (i := 27) (oi := { dst := some _, op := _, type := _, pos := _, after := _, guard := _ }) (v := (.bool true)) rfl (by kernel_rfl) (by kernel_rfl) (by kernel_rfl) (fun _ _ _ h => h) ?_ (by assumption) ?_
        focus (refine Or.inl ⟨by rfl, ?_⟩; intro wq hSw; go_simp; try first | with_reducible rfl | (simp [hdr]; done))
        try simp only [Act.put, List.setIfInBounds_toArray, List.set_cons_zero, List.set_cons_succ]
        refine wpAnyH_take (i := 28) (oi := { dst := some _, op := _, type := _, pos := _, after := _, guard := _ }) (v := (.bool true)) rfl (by kernel_rfl) (by kernel_rfl) (by kernel_rfl) (fun _ _ _ h => h) ?_ (by assumption) ?_
        focus (refine Or.inl ⟨by rfl, ?_⟩; intro wq hSw; go_simp; try first | with_reducible rfl | (simp; done))
        try simp only [Act.put, List.setIfInBounds_toArray, List.set_cons_zero, List.set_cons_succ]
        refine wpAnyH_take (i := 29) (oi := { dst := some _, op := _, type := _, pos := _, after := _, guard := _ }) (v := undef) rfl (by kernel_rfl) (by kernel_rfl) (by kernel_rfl) (fun _ _ _ h => h) ?_ (by assumption) ?_
        focus (exact Or.inr ⟨by rfl, rfl⟩)
        try simp only [Act.put, List.setIfInBounds_toArray, List.set_cons_zero, List.set_cons_succ]
        refine wpAnyH_take (i := 30) (oi := { dst := some _, op := _, type := _, pos := _, after := _, guard := _ }) (v := undef) rfl (by kernel_rfl) (by kernel_rfl) (by kernel_rfl) (fun _ _ _ h => h) ?_ (by assumption) ?_
        focus (exact Or.inr ⟨by rfl, rfl⟩)
        try simp only [Act.put, List.setIfInBounds_toArray, List.set_cons_zero, List.set_cons_succ]
        refine wpAnyH_take (i := 31) (oi := { dst := some _, op := _, type := _, pos := _, after := _, guard := _ }) (v := undef) rfl (by kernel_rfl) (by kernel_rfl) (by kernel_rfl) (fun _ _ _ h => h) ?_ (by assumption) ?_
        focus (exact Or.inr ⟨by rfl, rfl⟩)
        try simp only [Act.put, List.setIfInBounds_toArray, List.set_cons_zero, List.set_cons_succ]
        refine wpAnyH_take (i := 32) (oi := { dst := some _, op := _, type := _, pos := _, after := _, guard := _ }) (v := undef) rfl (by kernel_rfl) (by kernel_rfl) (by kernel_rfl) (fun _ _ _ h => h) ?_ (by assumption) ?_
        focus (exact Or.inr ⟨by rfl, rfl⟩)
        try simp only [Act.put, List.setIfInBounds_toArray, List.set_cons_zero, List.set_cons_succ]
        refine wpAnyH_take (i := 33) (oi := { dst := some _, op := _, type := _, pos := _, after := _, guard := _ }) (v := undef) rfl (by kernel_rfl) (by kernel_rfl) (by kernel_rfl) (fun _ _ _ h => h) ?_ (by assumption) ?_
        focus (exact Or.inr ⟨by rfl, rfl⟩)
        try simp only [Act.put, List.setIfInBounds_toArray, List.set_cons_zero, List.set_cons_succ]
        refine wpAnyH_take (i := 34) (oi := { dst := some _, op := _, type := _, pos := _, after := _, guard := _ }) (v := undef) rfl (by kernel_rfl) (by kernel_rfl) (by kernel_rfl) (fun _ _ _ h => h) ?_ (by assumption) ?_
        focus (exact Or.inr ⟨by rfl, rfl⟩)
        try simp only [Act.put, List.setIfInBounds_toArray, List.set_cons_zero, List.set_cons_succ]
        refine wpAnyH_take (i := 35) (oi := { dst := some _, op := _, type := _, pos := _, after := _, guard := _ }) (v := (.bool true)) rfl (by kernel_rfl) (by kernel_rfl) (by kernel_rfl) (fun _ _ _ h => h) ?_ (by assumption) ?_
        focus (refine Or.inl ⟨by rfl, ?_⟩; intro wq hSw; go_simp; try first | with_reducible rfl | (simp; done))
        try simp only [Act.put, List.setIfInBounds_toArray, List.set_cons_zero, List.set_cons_succ]
        refine wpAnyH_take (i := 36) (oi := { dst := some _, op := _, type := _, pos := _, after := _, guard := _ }) (v := (.bool true)) rfl (by kernel_rfl) (by kernel_rfl) (by kernel_rfl) (fun _ _ _ h => h) ?_ (by assumption) ?_
        focus (refine Or.inl ⟨by rfl, ?_⟩; intro wq hSw; go_simp; try first | with_reducible rfl | (simp; done))
        try simp only [Act.put, List.setIfInBounds_toArray, List.set_cons_zero, List.set_cons_succ]
        refine wpAnyH_take (i := 37) (oi := { dst := some _, op := _, type := _, pos := _, after := _, guard := _ }) (v := (.bool true)) rfl (by kernel_rfl) (by kernel_rfl) (by kernel_rfl) (fun _ _ _ h => h) ?_ (by assumption) ?_
        focus (refine Or.inl ⟨by rfl, ?_⟩; intro wq hSw; go_simp; try first | with_reducible rfl | (simp; done))
        try simp only [Act.put, List.setIfInBounds_toArray, List.set_cons_zero, List.set_cons_succ]
        refine wpAnyH_take (i := 38) (oi := { dst := some _, op := _, type := _, pos := _, after := _, guard := _ }) (v := (.agg #[.int .i64 i, .int .i64 d, .int .i64 c, .string b, .int .i64 a, .int .i64 t, .int .i64 R, .int .i64 nw, .int .i64 0])) rfl (by kernel_rfl) (by kernel_rfl) (by kernel_rfl) (fun _ _ _ h => h) ?_ (by assumption) ?_
        focus (refine Or.inl ⟨by rfl, ?_⟩; intro wq hSw; obtain ⟨hSb, se0, se1, se2, se3, se4, se5, se6, se7, se8, sk0, sk1, sk2, sk3, sk4, sk5, sk6, sk7, sk8, sd0, sd1, sd2, sd3, sd4, sd5, sd6, sd7, sd8⟩ := hSw; go_simp; try first | with_reducible rfl | (simp; done))
        try simp only [Act.put, List.setIfInBounds_toArray, List.set_cons_zero, List.set_cons_succ]
        refine wpAnyH_take (i := 40) (oi := { dst := some _, op := _, type := _, pos := _, after := _, guard := _ }) (v := (.agg #[.int .i64 i, .int .i64 d, .int .i64 c, .string b, .int .i64 a, .int .i64 t, .int .i64 R, .int .i64 nw, .int .i64 0])) rfl (by kernel_rfl) (by kernel_rfl) (by kernel_rfl) (fun _ _ _ h => h) ?_ (by assumption) ?_
        focus (refine Or.inl ⟨by rfl, ?_⟩; intro wq hSw; obtain ⟨hSb, se0, se1, se2, se3, se4, se5, se6, se7, se8, sk0, sk1, sk2, sk3, sk4, sk5, sk6, sk7, sk8, sd0, sd1, sd2, sd3, sd4, sd5, sd6, sd7, sd8⟩ := hSw; go_simp; try first | with_reducible rfl | (simp; done))
        try simp only [Act.put, List.setIfInBounds_toArray, List.set_cons_zero, List.set_cons_succ]
        refine wpAnyH_ready (rs := [39]) (by kernel_rfl) (by simp) ?_
        refine AllReadyH.cons rfl (fun KK hKK => ?_) AllReadyH.nil
        go_simp
        refine (back_any i d c b a t R nw 0 _).mono ?_
        rintro e w7 ⟨rfl, hb⟩
        rw [show bk 0 = 0 from rfl]
        replace HW0 := Lib.hid (bAfter HW0.out hb HW0.out.size)
        clear hb
        dsimp only
        refine hKK.out _ _ (HKS.out _ HW0.out) (fun hHeld => ?_)
        clear hKK
        try simp only [Act.put, List.setIfInBounds_toArray, List.set_cons_zero, List.set_cons_succ]
        refine wpAnyH_take (i := 41) (oi := { dst := some _, op := _, type := _, pos := _, after := _, guard := _ }) (v := (.bool true)) rfl (by kernel_rfl) (by kernel_rfl) (by kernel_rfl) (fun _ _ _ h => h) ?_ (by assumption) ?_
        focus (refine Or.inl ⟨by rfl, ?_⟩; intro wq hSw; go_simp; try first | with_reducible rfl | (simp; done))
        try simp only [Act.put, List.setIfInBounds_toArray, List.set_cons_zero, List.set_cons_succ]
        refine wpAnyH_take (i := 42) (oi := { dst := some _, op := _, type := _, pos := _, after := _, guard := _ }) (v := (.bool true)) rfl (by kernel_rfl) (by kernel_rfl) (by kernel_rfl) (fun _ _ _ h => h) ?_ (by assumption) ?_
        focus (refine Or.inl ⟨by rfl, ?_⟩; intro wq hSw; go_simp; try first | with_reducible rfl | (simp; done))
        try simp only [Act.put, List.setIfInBounds_toArray, List.set_cons_zero, List.set_cons_succ]
        refine wpAnyH_take (i := 43) (oi := { dst := some _, op := _, type := _, pos := _, after := _, guard := _ }) (v := (.bool true)) rfl (by kernel_rfl) (by kernel_rfl) (by kernel_rfl) (fun _ _ _ h => h) ?_ (by assumption) ?_
        focus (refine Or.inl ⟨by rfl, ?_⟩; intro wq hSw; go_simp; try first | with_reducible rfl | (simp; done))
        try simp only [Act.put, List.setIfInBounds_toArray, List.set_cons_zero, List.set_cons_succ]
        refine wpAnyH_take (i := 44) (oi := { dst := some _, op := _, type := _, pos := _, after := _, guard := _ }) (v := (.agg #[.int .i64 i, .int .i64 d, .int .i64 c, .string b, .int .i64 a, .int .i64 t, .int .i64 R, .int .i64 nw, .int .i64 0])) rfl (by kernel_rfl) (by kernel_rfl) (by kernel_rfl) (fun _ _ _ h => h) ?_ (by assumption) ?_
        focus (refine Or.inl ⟨by rfl, ?_⟩; intro wq hSw; obtain ⟨hSb, se0, se1, se2, se3, se4, se5, se6, se7, se8, sk0, sk1, sk2, sk3, sk4, sk5, sk6, sk7, sk8, sd0, sd1, sd2, sd3, sd4, sd5, sd6, sd7, sd8⟩ := hSw; go_simp; try first | with_reducible rfl | (simp; done))
        try simp only [Act.put, List.setIfInBounds_toArray, List.set_cons_zero, List.set_cons_succ]
        refine wpAnyH_take (i := 45) (oi := { dst := some _, op := _, type := _, pos := _, after := _, guard := _ }) (v := ?_) rfl (by kernel_rfl) (by kernel_rfl) (by kernel_rfl) (fun _ _ _ h => h) ?_ (by assumption) ?_
        rotate_left 1
        focus (refine Or.inl ⟨by rfl, ?_⟩; intro wq hSw; go_simp; try first | with_reducible rfl | (simp; done))
        try simp only [Act.put, List.setIfInBounds_toArray, List.set_cons_zero, List.set_cons_succ]
        refine wpAnyH_take (i := 46) (oi := { dst := some _, op := _, type := _, pos := _, after := _, guard := _ }) (v := ?_) rfl (by kernel_rfl) (by kernel_rfl) (by kernel_rfl) (fun _ _ _ h => h) ?_ (by assumption) ?_
        rotate_left 1
        focus (refine Or.inl ⟨by rfl, ?_⟩; intro wq hSw; go_simp; try first | with_reducible rfl | (simp; done))
        try simp only [Act.put, List.setIfInBounds_toArray, List.set_cons_zero, List.set_cons_succ]
        refine wpAnyH_take (i := 47) (oi := { dst := some _, op := _, type := _, pos := _, after := _, guard := _ }) (v := (.int .i64 nw)) rfl (by kernel_rfl) (by kernel_rfl) (by kernel_rfl) (fun _ _ _ h => h) ?_ (by assumption) ?_
        focus (refine Or.inl ⟨by rfl, ?_⟩; intro wq hSw; go_simp; try first | with_reducible rfl | (simp [hwi]; done))
        try simp only [Act.put, List.setIfInBounds_toArray, List.set_cons_zero, List.set_cons_succ]
        refine wpAnyH_ready (rs := [48]) (by kernel_rfl) (by simp) ?_
        refine AllReadyH.cons rfl (fun KK hKK => ?_) AllReadyH.nil
        go_simp
        refine (ready_any i d c b a t R nw 0 nw _ HM.out).mono ?_
        rintro e w8 ⟨rfl, hb⟩
        rw [hrd]
        replace HW0 := Lib.hid (bAfter HW0.out hb HW0.out.size)
        clear hb
        dsimp only
        refine hKK.out _ _ (HKS.out _ HW0.out) (fun hHeld => ?_)
        clear hKK
        try simp only [Act.put, List.setIfInBounds_toArray, List.set_cons_zero, List.set_cons_succ]
        refine wpAnyH_take (i := 49) (oi := { dst := some _, op := _, type := _, pos := _, after := _, guard := _ }) (v := (.bool false)) rfl (by kernel_rfl) (by kernel_rfl) (by kernel_rfl) (fun _ _ _ h => h) ?_ (by assumption) ?_
        focus (refine Or.inl ⟨by rfl, ?_⟩; intro wq hSw; go_simp; try first | with_reducible rfl | (simp; done))
        try simp only [Act.put, List.setIfInBounds_toArray, List.set_cons_zero, List.set_cons_succ]
        refine wpAnyH_take (i := 50) (oi := { dst := some _, op := _, type := _, pos := _, after := _, guard := _ }) (v := (.agg #[.int .i64 i, .int .i64 d, .int .i64 c, .string b, .int .i64 a, .int .i64 t, .int .i64 R, .int .i64 nw, .int .i64 0])) rfl (by kernel_rfl) (by kernel_rfl) (by kernel_rfl) (fun _ _ _ h => h) ?_ (by assumption) ?_
        focus (refine Or.inl ⟨by rfl, ?_⟩; intro wq hSw; obtain ⟨hSb, se0, se1, se2, se3, se4, se5, se6, se7, se8, sk0, sk1, sk2, sk3, sk4, sk5, sk6, sk7, sk8, sd0, sd1, sd2, sd3, sd4, sd5, sd6, sd7, sd8⟩ := hSw; go_simp; try first | with_reducible rfl | (simp; done))
        try simp only [Act.put, List.setIfInBounds_toArray, List.set_cons_zero, List.set_cons_succ]
        refine wpAnyH_take (i := 51) (oi := { dst := some _, op := _, type := _, pos := _, after := _, guard := _ }) (v := ?_) rfl (by kernel_rfl) (by kernel_rfl) (by kernel_rfl) (fun _ _ _ h => h) ?_ (by assumption) ?_
        rotate_left 1
        focus (refine Or.inl ⟨by rfl, ?_⟩; intro wq hSw; go_simp; try first | with_reducible rfl | (simp; done))
        try simp only [Act.put, List.setIfInBounds_toArray, List.set_cons_zero, List.set_cons_succ]
        refine wpAnyH_take (i := 52) (oi := { dst := some _, op := _, type := _, pos := _, after := _, guard := _ }) (v := ?_) rfl (by kernel_rfl) (by kernel_rfl) (by kernel_rfl) (fun _ _ _ h => h) ?_ (by assumption) ?_
        rotate_left 1
        focus (refine Or.inl ⟨by rfl, ?_⟩; intro wq hSw; go_simp; try first | with_reducible rfl | (simp; done))
        try simp only [Act.put, List.setIfInBounds_toArray, List.set_cons_zero, List.set_cons_succ]
        refine wpAnyH_take (i := 53) (oi := { dst := some _, op := _, type := _, pos := _, after := _, guard := _ }) (v := (.int .i64 nw)) rfl (by kernel_rfl) (by kernel_rfl) (by kernel_rfl) (fun _ _ _ h => h) ?_ (by assumption) ?_
        focus (refine Or.inl ⟨by rfl, ?_⟩; intro wq hSw; go_simp; try first | with_reducible rfl | (simp [hwi]; done))
        try simp only [Act.put, List.setIfInBounds_toArray, List.set_cons_zero, List.set_cons_succ]
        refine wpAnyH_ready (rs := [54]) (by kernel_rfl) (by simp) ?_
        refine AllReadyH.cons rfl (fun KK hKK => ?_) AllReadyH.nil
        go_simp
        refine (specOld_any i d c b a t R nw 0 nw _ HM.out).mono ?_
        rintro e w9 ⟨rfl, hb⟩
        rw [hod]
        replace HW0 := Lib.hid (bAfter HW0.out hb HW0.out.size)
        clear hb
        dsimp only
        refine hKK.out _ _ (HKS.out _ HW0.out) (fun hHeld => ?_)
        clear hKK
        try simp only [Act.put, List.setIfInBounds_toArray, List.set_cons_zero, List.set_cons_succ]
        refine wpAnyH_take (i := 55) (oi := { dst := some _, op := _, type := _, pos := _, after := _, guard := _ }) (v := (.bool true)) rfl (by kernel_rfl) (by kernel_rfl) (by kernel_rfl) (fun _ _ _ h => h) ?_ (by assumption) ?_
        focus (refine Or.inl ⟨by rfl, ?_⟩; intro wq hSw; go_simp; try first | with_reducible rfl | (simp; done))
        try simp only [Act.put, List.setIfInBounds_toArray, List.set_cons_zero, List.set_cons_succ]
        refine wpAnyH_take (i := 56) (oi := { dst := some _, op := _, type := _, pos := _, after := _, guard := _ }) (v := (.bool true)) rfl (by kernel_rfl) (by kernel_rfl) (by kernel_rfl) (fun _ _ _ h => h) ?_ (by assumption) ?_
        focus (refine Or.inl ⟨by rfl, ?_⟩; intro wq hSw; go_simp; try first | with_reducible rfl | (simp; done))
        try simp only [Act.put, List.setIfInBounds_toArray, List.set_cons_zero, List.set_cons_succ]
        refine wpAnyH_take (i := 57) (oi := { dst := some _, op := _, type := _, pos := _, after := _, guard := _ }) (v := (.bool true)) rfl (by kernel_rfl) (by kernel_rfl) (by kernel_rfl) (fun _ _ _ h => h) ?_ (by assumption) ?_
        focus (refine Or.inl ⟨by rfl, ?_⟩; intro wq hSw; go_simp; try first | with_reducible rfl | (simp; done))
        try simp only [Act.put, List.setIfInBounds_toArray, List.set_cons_zero, List.set_cons_succ]
        refine wpAnyH_done (by kernel_rfl) ?_ _
        go_wp2_with fail
        go_ret
        exact ⟨rfl, bAfter HL.out HW0.out HL.out.size⟩
      · have hrd : rdyB a t nw 0 nw = true := decide_eq_true ⟨rfl, Int.le_refl _, hx⟩
        refine wp_region_held_drew (S := fun w' => Below V2.heap.size V2 w' ∧ w'.cell? ⟨w1.heap.size, 0, none⟩ = some (.int .i64 i) ∧ w'.cell? ⟨w1.heap.size, 1, none⟩ = some (.int .i64 d) ∧ w'.cell? ⟨w1.heap.size, 2, none⟩ = some (.int .i64 c) ∧ w'.cell? ⟨w1.heap.size, 3, none⟩ = some (.string b) ∧ w'.cell? ⟨w1.heap.size, 4, none⟩ = some (.int .i64 a) ∧ w'.cell? ⟨w1.heap.size, 5, none⟩ = some (.int .i64 t) ∧ w'.cell? ⟨w1.heap.size, 6, none⟩ = some (.int .i64 r) ∧ w'.cell? ⟨w1.heap.size, 7, none⟩ = some (.int .i64 n) ∧ w'.cell? ⟨w1.heap.size, 8, none⟩ = some (.int .i64 s) ∧ w'.cell? ⟨w2.heap.size, 0, none⟩ = some (.int .i64 i) ∧ w'.cell? ⟨w2.heap.size, 1, none⟩ = some (.int .i64 d) ∧ w'.cell? ⟨w2.heap.size, 2, none⟩ = some (.int .i64 c) ∧ w'.cell? ⟨w2.heap.size, 3, none⟩ = some (.string b) ∧ w'.cell? ⟨w2.heap.size, 4, none⟩ = some (.int .i64 a) ∧ w'.cell? ⟨w2.heap.size, 5, none⟩ = some (.int .i64 t) ∧ w'.cell? ⟨w2.heap.size, 6, none⟩ = some (.int .i64 R) ∧ w'.cell? ⟨w2.heap.size, 7, none⟩ = some (.int .i64 nw) ∧ w'.cell? ⟨w2.heap.size, 8, none⟩ = some (.int .i64 1) ∧ w'.cell? ⟨w5.heap.size, 0, none⟩ = some (.int .i64 i) ∧ w'.cell? ⟨w5.heap.size, 1, none⟩ = some (.int .i64 d) ∧ w'.cell? ⟨w5.heap.size, 2, none⟩ = some (.int .i64 c) ∧ w'.cell? ⟨w5.heap.size, 3, none⟩ = some (.string b) ∧ w'.cell? ⟨w5.heap.size, 4, none⟩ = some (.int .i64 a) ∧ w'.cell? ⟨w5.heap.size, 5, none⟩ = some (.int .i64 t) ∧ w'.cell? ⟨w5.heap.size, 6, none⟩ = some (.int .i64 R) ∧ w'.cell? ⟨w5.heap.size, 7, none⟩ = some (.int .i64 nw) ∧ w'.cell? ⟨w5.heap.size, 8, none⟩ = some (.int .i64 0)) (by kernel_rfl) (HKS.out _ HW0.out) (fun hHeld => ?_)
        refine wpAnyH_take (i := 0) (oi := { dst := some _, op := _, type := _, pos := _, after := _, guard := _ }) (v := ?_) rfl (by kernel_rfl) (by kernel_rfl) (by kernel_rfl) (fun _ _ _ h => h) ?_ (by assumption) ?_
        rotate_left 1
        focus (refine Or.inl ⟨by rfl, ?_⟩; intro wq hSw; go_simp; try first | with_reducible rfl | (simp; done))
        try simp only [Act.put, List.setIfInBounds_toArray, List.set_cons_zero, List.set_cons_succ]
        refine wpAnyH_take (i := 1) (oi := { dst := some _, op := _, type := _, pos := _, after := _, guard := _ }) (v := (.int .i64 1)) rfl (by kernel_rfl) (by kernel_rfl) (by kernel_rfl) (fun _ _ _ h => h) ?_ (by assumption) ?_
        focus (refine Or.inl ⟨by rfl, ?_⟩; intro wq hSw; obtain ⟨hSb, se0, se1, se2, se3, se4, se5, se6, se7, se8, sk0, sk1, sk2, sk3, sk4, sk5, sk6, sk7, sk8, sd0, sd1, sd2, sd3, sd4, sd5, sd6, sd7, sd8⟩ := hSw; go_simp; try first | with_reducible rfl | (simp; done))
        try simp only [Act.put, List.setIfInBounds_toArray, List.set_cons_zero, List.set_cons_succ]
        refine wpAnyH_take (i := 2) (oi := { dst := some _, op := _, type := _, pos := _, after := _, guard := _ }) (v := (.bool true)) rfl (by kernel_rfl) (by kernel_rfl) (by kernel_rfl) (fun _ _ _ h => h) ?_ (by assumption) ?_
        focus (refine Or.inl ⟨by rfl, ?_⟩; intro wq hSw; go_simp; try first | with_reducible rfl | (simp; done))
        try simp only [Act.put, List.setIfInBounds_toArray, List.set_cons_zero, List.set_cons_succ]
        refine wpAnyH_take (i := 3) (oi := { dst := some _, op := _, type := _, pos := _, after := _, guard := _ }) (v := (.bool true)) rfl (by kernel_rfl) (by kernel_rfl) (by kernel_rfl) (fun _ _ _ h => h) ?_ (by assumption) ?_
        focus (refine Or.inl ⟨by rfl, ?_⟩; intro wq hSw; go_simp; try first | with_reducible rfl | (simp; done))
        try simp only [Act.put, List.setIfInBounds_toArray, List.set_cons_zero, List.set_cons_succ]
        refine wpAnyH_take (i := 4) (oi := { dst := some _, op := _, type := _, pos := _, after := _, guard := _ }) (v := ?_) rfl (by kernel_rfl) (by kernel_rfl) (by kernel_rfl) (fun _ _ _ h => h) ?_ (by assumption) ?_
        rotate_left 1
        focus (refine Or.inl ⟨by rfl, ?_⟩; intro wq hSw; go_simp; try first | with_reducible rfl | (simp; done))
        try simp only [Act.put, List.setIfInBounds_toArray, List.set_cons_zero, List.set_cons_succ]
        refine wpAnyH_take (i := 5) (oi := { dst := some _, op := _, type := _, pos := _, after := _, guard := _ }) (v := (.int .i64 nw)) rfl (by kernel_rfl) (by kernel_rfl) (by kernel_rfl) (fun _ _ _ h => h) ?_ (by assumption) ?_
        focus (refine Or.inl ⟨by rfl, ?_⟩; intro wq hSw; obtain ⟨hSb, se0, se1, se2, se3, se4, se5, se6, se7, se8, sk0, sk1, sk2, sk3, sk4, sk5, sk6, sk7, sk8, sd0, sd1, sd2, sd3, sd4, sd5, sd6, sd7, sd8⟩ := hSw; go_simp; try first | with_reducible rfl | (simp; done))
        try simp only [Act.put, List.setIfInBounds_toArray, List.set_cons_zero, List.set_cons_succ]
        refine wpAnyH_take (i := 6) (oi := { dst := some _, op := _, type := _, pos := _, after := _, guard := _ }) (v := ?_) rfl (by kernel_rfl) (by kernel_rfl) (by kernel_rfl) (fun _ _ _ h => h) ?_ (by assumption) ?_
        rotate_left 1
        focus (refine Or.inl ⟨by rfl, ?_⟩; intro wq hSw; go_simp; try first | with_reducible rfl | (simp; done))
        try simp only [Act.put, List.setIfInBounds_toArray, List.set_cons_zero, List.set_cons_succ]
        refine wpAnyH_take (i := 7) (oi := { dst := some _, op := _, type := _, pos := _, after := _, guard := _ }) (v := ?_) rfl (by kernel_rfl) (by kernel_rfl) (by kernel_rfl) (fun _ _ _ h => h) ?_ (by assumption) ?_
        rotate_left 1
        focus (refine Or.inl ⟨by rfl, ?_⟩; intro wq hSw; go_simp; try first | with_reducible rfl | (simp; done))
        try simp only [Act.put, List.setIfInBounds_toArray, List.set_cons_zero, List.set_cons_succ]
        refine wpAnyH_take (i := 8) (oi := { dst := some _, op := _, type := _, pos := _, after := _, guard := _ }) (v := (.int .i64 nw)) rfl (by kernel_rfl) (by kernel_rfl) (by kernel_rfl) (fun _ _ _ h => h) ?_ (by assumption) ?_
        focus (refine Or.inl ⟨by rfl, ?_⟩; intro wq hSw; go_simp; try first | with_reducible rfl | (simp [hwi]; done))
        try simp only [Act.put, List.setIfInBounds_toArray, List.set_cons_zero, List.set_cons_succ]
        refine wpAnyH_take (i := 9) (oi := { dst := some _, op := _, type := _, pos := _, after := _, guard := _ }) (v := (.bool true)) rfl (by kernel_rfl) (by kernel_rfl) (by kernel_rfl) (fun _ _ _ h => h) ?_ (by assumption) ?_
        focus (refine Or.inl ⟨by rfl, ?_⟩; intro wq hSw; go_simp; try first | with_reducible rfl | (simp; done))
        try simp only [Act.put, List.setIfInBounds_toArray, List.set_cons_zero, List.set_cons_succ]
        refine wpAnyH_take (i := 10) (oi := { dst := some _, op := _, type := _, pos := _, after := _, guard := _ }) (v := (.bool true)) rfl (by kernel_rfl) (by kernel_rfl) (by kernel_rfl) (fun _ _ _ h => h) ?_ (by assumption) ?_
        focus (refine Or.inl ⟨by rfl, ?_⟩; intro wq hSw; go_simp; try first | with_reducible rfl | (simp; done))
        try simp only [Act.put, List.setIfInBounds_toArray, List.set_cons_zero, List.set_cons_succ]
        refine wpAnyH_take (i := 11) (oi := { dst := some _, op := _, type := _, pos := _, after := _, guard := _ }) (v := (.bool true)) rfl (by kernel_rfl) (by kernel_rfl) (by kernel_rfl) (fun _ _ _ h => h) ?_ (by assumption) ?_
        focus (refine Or.inl ⟨by rfl, ?_⟩; intro wq hSw; go_simp; try first | with_reducible rfl | (simp; done))
        try simp only [Act.put, List.setIfInBounds_toArray, List.set_cons_zero, List.set_cons_succ]
        refine wpAnyH_take (i := 12) (oi := { dst := some _, op := _, type := _, pos := _, after := _, guard := _ }) (v := (.agg #[.int .i64 i, .int .i64 d, .int .i64 c, .string b, .int .i64 a, .int .i64 t, .int .i64 R, .int .i64 nw, .int .i64 1])) rfl (by kernel_rfl) (by kernel_rfl) (by kernel_rfl) (fun _ _ _ h => h) ?_ (by assumption) ?_
        focus (refine Or.inl ⟨by rfl, ?_⟩; intro wq hSw; obtain ⟨hSb, se0, se1, se2, se3, se4, se5, se6, se7, se8, sk0, sk1, sk2, sk3, sk4, sk5, sk6, sk7, sk8, sd0, sd1, sd2, sd3, sd4, sd5, sd6, sd7, sd8⟩ := hSw; go_simp; try first | with_reducible rfl | (simp; done))
        try simp only [Act.put, List.setIfInBounds_toArray, List.set_cons_zero, List.set_cons_succ]
        refine wpAnyH_take (i := 13) (oi := { dst := some _, op := _, type := _, pos := _, after := _, guard := _ }) (v := ?_) rfl (by kernel_rfl) (by kernel_rfl) (by kernel_rfl) (fun _ _ _ h => h) ?_ (by assumption) ?_
        rotate_left 1
        focus (refine Or.inl ⟨by rfl, ?_⟩; intro wq hSw; go_simp; try first | with_reducible rfl | (simp; done))
        try simp only [Act.put, List.setIfInBounds_toArray, List.set_cons_zero, List.set_cons_succ]
        refine wpAnyH_take (i := 14) (oi := { dst := some _, op := _, type := _, pos := _, after := _, guard := _ }) (v := ?_) rfl (by kernel_rfl) (by kernel_rfl) (by kernel_rfl) (fun _ _ _ h => h) ?_ (by assumption) ?_
        rotate_left 1
        focus (refine Or.inl ⟨by rfl, ?_⟩; intro wq hSw; go_simp; try first | with_reducible rfl | (simp; done))
        try simp only [Act.put, List.setIfInBounds_toArray, List.set_cons_zero, List.set_cons_succ]
        refine wpAnyH_take (i := 15) (oi := { dst := some _, op := _, type := _, pos := _, after := _, guard := _ }) (v := (.int .i64 nw)) rfl (by kernel_rfl) (by kernel_rfl) (by kernel_rfl) (fun _ _ _ h => h) ?_ (by assumption) ?_
        focus (refine Or.inl ⟨by rfl, ?_⟩; intro wq hSw; go_simp; try first | with_reducible rfl | (simp [hwi]; done))
        try simp only [Act.put, List.setIfInBounds_toArray, List.set_cons_zero, List.set_cons_succ]
        refine wpAnyH_ready (rs := [16]) (by kernel_rfl) (by simp) ?_
        refine AllReadyH.cons rfl (fun KK hKK => ?_) AllReadyH.nil
        go_simp
        refine (ready_any i d c b a t R nw 1 nw _ HM.out).mono ?_
        rintro e w6 ⟨rfl, hb⟩
        rw [HR1.out]
        replace HW0 := Lib.hid (bAfter HW0.out hb HW0.out.size)
        clear hb
        dsimp only
        refine hKK.out _ _ (HKS.out _ HW0.out) (fun hHeld => ?_)
        clear hKK
        try simp only [Act.put, List.setIfInBounds_toArray, List.set_cons_zero, List.set_cons_succ]
        refine wpAnyH_take (i := 17) (oi := { dst := some _, op := _, type := _, pos := _, after := _, guard := _ }) (v := (.bool true)) rfl (by kernel_rfl) (by kernel_rfl) (by kernel_rfl) (fun _ _ _ h => h) ?_ (by assumption) ?_
        focus (refine Or.inl ⟨by rfl, ?_⟩; intro wq hSw; go_simp; try first | with_reducible rfl | (simp; done))
        try simp only [Act.put, List.setIfInBounds_toArray, List.set_cons_zero, List.set_cons_succ]
        refine wpAnyH_take (i := 18) (oi := { dst := some _, op := _, type := _, pos := _, after := _, guard := _ }) (v := (.bool true)) rfl (by kernel_rfl) (by kernel_rfl) (by kernel_rfl) (fun _ _ _ h => h) ?_ (by assumption) ?_
        focus (refine Or.inl ⟨by rfl, ?_⟩; intro wq hSw; go_simp; try first | with_reducible rfl | (simp; done))
        try simp only [Act.put, List.setIfInBounds_toArray, List.set_cons_zero, List.set_cons_succ]
        refine wpAnyH_take (i := 19) (oi := { dst := some _, op := _, type := _, pos := _, after := _, guard := _ }) (v := (.bool true)) rfl (by kernel_rfl) (by kernel_rfl) (by kernel_rfl) (fun _ _ _ h => h) ?_ (by assumption) ?_
        focus (refine Or.inl ⟨by rfl, ?_⟩; intro wq hSw; go_simp; try first | with_reducible rfl | (simp; done))
        try simp only [Act.put, List.setIfInBounds_toArray, List.set_cons_zero, List.set_cons_succ]
        refine wpAnyH_take (i := 20) (oi := { dst := some _, op := _, type := _, pos := _, after := _, guard := _ }) (v := ?_) rfl (by kernel_rfl) (by kernel_rfl) (by kernel_rfl) (fun _ _ _ h => h) ?_ (by assumption) ?_
        rotate_left 1
        focus (refine Or.inl ⟨by rfl, ?_⟩; intro wq hSw; go_simp; try first | with_reducible rfl | (simp; done))
        try simp only [Act.put, List.setIfInBounds_toArray, List.set_cons_zero, List.set_cons_succ]
        refine wpAnyH_take (i := 21) (oi := { dst := some _, op := _, type := _, pos := _, after := _, guard := _ }) (v := (.int .i64 0)) rfl (by kernel_rfl) (by kernel_rfl) (by kernel_rfl) (fun _ _ _ h => h) ?_ (by assumption) ?_
        focus (refine Or.inl ⟨by rfl, ?_⟩; intro wq hSw; obtain ⟨hSb, se0, se1, se2, se3, se4, se5, se6, se7, se8, sk0, sk1, sk2, sk3, sk4, sk5, sk6, sk7, sk8, sd0, sd1, sd2, sd3, sd4, sd5, sd6, sd7, sd8⟩ := hSw; go_simp; try first | with_reducible rfl | (simp; done))
        try simp only [Act.put, List.setIfInBounds_toArray, List.set_cons_zero, List.set_cons_succ]
        refine wpAnyH_take (i := 22) (oi := { dst := some _, op := _, type := _, pos := _, after := _, guard := _ }) (v := (.bool true)) rfl (by kernel_rfl) (by kernel_rfl) (by kernel_rfl) (fun _ _ _ h => h) ?_ (by assumption) ?_
        focus (refine Or.inl ⟨by rfl, ?_⟩; intro wq hSw; go_simp; try first | with_reducible rfl | (simp; done))
        try simp only [Act.put, List.setIfInBounds_toArray, List.set_cons_zero, List.set_cons_succ]
        refine wpAnyH_take (i := 23) (oi := { dst := some _, op := _, type := _, pos := _, after := _, guard := _ }) (v := (.bool true)) rfl (by kernel_rfl) (by kernel_rfl) (by kernel_rfl) (fun _ _ _ h => h) ?_ (by assumption) ?_
        focus (refine Or.inl ⟨by rfl, ?_⟩; intro wq hSw; go_simp; try first | with_reducible rfl | (simp; done))
        try simp only [Act.put, List.setIfInBounds_toArray, List.set_cons_zero, List.set_cons_succ]
        refine wpAnyH_take (i := 24) (oi := { dst := some _, op := _, type := _, pos := _, after := _, guard := _ }) (v := (.bool true)) rfl (by kernel_rfl) (by kernel_rfl) (by kernel_rfl) (fun _ _ _ h => h) ?_ (by assumption) ?_
        focus (refine Or.inl ⟨by rfl, ?_⟩; intro wq hSw; go_simp; try first | with_reducible rfl | (simp; done))
        try simp only [Act.put, List.setIfInBounds_toArray, List.set_cons_zero, List.set_cons_succ]
        refine wpAnyH_take (i := 25) (oi := { dst := some _, op := _, type := _, pos := _, after := _, guard := _ }) (v := ?_) rfl (by kernel_rfl) (by kernel_rfl) (by kernel_rfl) (fun _ _ _ h => h) ?_ (by assumption) ?_
        rotate_left 1
        focus (refine Or.inl ⟨by rfl, ?_⟩; intro wq hSw; go_simp; try first | with_reducible rfl | (simp; done))
        try simp only [Act.put, List.setIfInBounds_toArray, List.set_cons_zero, List.set_cons_succ]
        refine wpAnyH_take (i := 26) (oi := { dst := some _, op := _, type := _, pos := _, after := _, guard := _ }) (v := (.int .i64 r)) rfl (by kernel_rfl) (by kernel_rfl) (by kernel_rfl) (fun _ _ _ h => h) ?_ (by assumption) ?_
        focus (refine Or.inl ⟨by rfl, ?_⟩; intro wq hSw; obtain ⟨hSb, se0, se1, se2, se3, se4, se5, se6, se7, se8, sk0, sk1, sk2, sk3, sk4, sk5, sk6, sk7, sk8, sd0, sd1, sd2, sd3, sd4, sd5, sd6, sd7, sd8⟩ := hSw; go_simp; try first | with_reducible rfl | (simp; done))
        try simp only [Act.put, List.setIfInBounds_toArray, List.set_cons_zero, List.set_cons_succ]
        refine wpAnyH_take (i := 27) (oi := { dst := some _, op := _, type := _, pos := _, after := _, guard := _ }) (v := (.bool true)) rfl (by kernel_rfl) (by kernel_rfl) (by kernel_rfl) (fun _ _ _ h => h) ?_ (by assumption) ?_
        focus (refine Or.inl ⟨by rfl, ?_⟩; intro wq hSw; go_simp; try first | with_reducible rfl | (simp [hdr]; done))
        try simp only [Act.put, List.setIfInBounds_toArray, List.set_cons_zero, List.set_cons_succ]
        refine wpAnyH_take (i := 28) (oi := { dst := some _, op := _, type := _, pos := _, after := _, guard := _ }) (v := (.bool true)) rfl (by kernel_rfl) (by kernel_rfl) (by kernel_rfl) (fun _ _ _ h => h) ?_ (by assumption) ?_
        focus (refine Or.inl ⟨by rfl, ?_⟩; intro wq hSw; go_simp; try first | with_reducible rfl | (simp; done))
        try simp only [Act.put, List.setIfInBounds_toArray, List.set_cons_zero, List.set_cons_succ]
        refine wpAnyH_take (i := 29) (oi := { dst := some _, op := _, type := _, pos := _, after := _, guard := _ }) (v := undef) rfl (by kernel_rfl) (by kernel_rfl) (by kernel_rfl) (fun _ _ _ h => h) ?_ (by assumption) ?_
        focus (exact Or.inr ⟨by rfl, rfl⟩)
        try simp only [Act.put, List.setIfInBounds_toArray, List.set_cons_zero, List.set_cons_succ]
        refine wpAnyH_take (i := 30) (oi := { dst := some _, op := _, type := _, pos := _, after := _, guard := _ }) (v := undef) rfl (by kernel_rfl) (by kernel_rfl) (by kernel_rfl) (fun _ _ _ h => h) ?_ (by assumption) ?_
        focus (exact Or.inr ⟨by rfl, rfl⟩)
        try simp only [Act.put, List.setIfInBounds_toArray, List.set_cons_zero, List.set_cons_succ]
        refine wpAnyH_take (i := 31) (oi := { dst := some _, op := _, type := _, pos := _, after := _, guard := _ }) (v := undef) rfl (by kernel_rfl) (by kernel_rfl) (by kernel_rfl) (fun _ _ _ h => h) ?_ (by assumption) ?_
        focus (exact Or.inr ⟨by rfl, rfl⟩)
        try simp only [Act.put, List.setIfInBounds_toArray, List.set_cons_zero, List.set_cons_succ]
        refine wpAnyH_take (i := 32) (oi := { dst := some _, op := _, type := _, pos := _, after := _, guard := _ }) (v := undef) rfl (by kernel_rfl) (by kernel_rfl) (by kernel_rfl) (fun _ _ _ h => h) ?_ (by assumption) ?_
        focus (exact Or.inr ⟨by rfl, rfl⟩)
        try simp only [Act.put, List.setIfInBounds_toArray, List.set_cons_zero, List.set_cons_succ]
        refine wpAnyH_take (i := 33) (oi := { dst := some _, op := _, type := _, pos := _, after := _, guard := _ }) (v := undef) rfl (by kernel_rfl) (by kernel_rfl) (by kernel_rfl) (fun _ _ _ h => h) ?_ (by assumption) ?_
        focus (exact Or.inr ⟨by rfl, rfl⟩)
        try simp only [Act.put, List.setIfInBounds_toArray, List.set_cons_zero, List.set_cons_succ]
        refine wpAnyH_take (i := 34) (oi := { dst := some _, op := _, type := _, pos := _, after := _, guard := _ }) (v := undef) rfl (by kernel_rfl) (by kernel_rfl) (by kernel_rfl) (fun _ _ _ h => h) ?_ (by assumption) ?_
        focus (exact Or.inr ⟨by rfl, rfl⟩)
        try simp only [Act.put, List.setIfInBounds_toArray, List.set_cons_zero, List.set_cons_succ]
        refine wpAnyH_take (i := 35) (oi := { dst := some _, op := _, type := _, pos := _, after := _, guard := _ }) (v := (.bool true)) rfl (by kernel_rfl) (by kernel_rfl) (by kernel_rfl) (fun _ _ _ h => h) ?_ (by assumption) ?_
        focus (refine Or.inl ⟨by rfl, ?_⟩; intro wq hSw; go_simp; try first | with_reducible rfl | (simp; done))
        try simp only [Act.put, List.setIfInBounds_toArray, List.set_cons_zero, List.set_cons_succ]
        refine wpAnyH_take (i := 36) (oi := { dst := some _, op := _, type := _, pos := _, after := _, guard := _ }) (v := (.bool true)) rfl (by kernel_rfl) (by kernel_rfl) (by kernel_rfl) (fun _ _ _ h => h) ?_ (by assumption) ?_
        focus (refine Or.inl ⟨by rfl, ?_⟩; intro wq hSw; go_simp; try first | with_reducible rfl | (simp; done))
        try simp only [Act.put, List.setIfInBounds_toArray, List.set_cons_zero, List.set_cons_succ]
        refine wpAnyH_take (i := 37) (oi := { dst := some _, op := _, type := _, pos := _, after := _, guard := _ }) (v := (.bool true)) rfl (by kernel_rfl) (by kernel_rfl) (by kernel_rfl) (fun _ _ _ h => h) ?_ (by assumption) ?_
        focus (refine Or.inl ⟨by rfl, ?_⟩; intro wq hSw; go_simp; try first | with_reducible rfl | (simp; done))
        try simp only [Act.put, List.setIfInBounds_toArray, List.set_cons_zero, List.set_cons_succ]
        refine wpAnyH_take (i := 38) (oi := { dst := some _, op := _, type := _, pos := _, after := _, guard := _ }) (v := (.agg #[.int .i64 i, .int .i64 d, .int .i64 c, .string b, .int .i64 a, .int .i64 t, .int .i64 R, .int .i64 nw, .int .i64 0])) rfl (by kernel_rfl) (by kernel_rfl) (by kernel_rfl) (fun _ _ _ h => h) ?_ (by assumption) ?_
        focus (refine Or.inl ⟨by rfl, ?_⟩; intro wq hSw; obtain ⟨hSb, se0, se1, se2, se3, se4, se5, se6, se7, se8, sk0, sk1, sk2, sk3, sk4, sk5, sk6, sk7, sk8, sd0, sd1, sd2, sd3, sd4, sd5, sd6, sd7, sd8⟩ := hSw; go_simp; try first | with_reducible rfl | (simp; done))
        try simp only [Act.put, List.setIfInBounds_toArray, List.set_cons_zero, List.set_cons_succ]
        refine wpAnyH_take (i := 40) (oi := { dst := some _, op := _, type := _, pos := _, after := _, guard := _ }) (v := (.agg #[.int .i64 i, .int .i64 d, .int .i64 c, .string b, .int .i64 a, .int .i64 t, .int .i64 R, .int .i64 nw, .int .i64 0])) rfl (by kernel_rfl) (by kernel_rfl) (by kernel_rfl) (fun _ _ _ h => h) ?_ (by assumption) ?_
        focus (refine Or.inl ⟨by rfl, ?_⟩; intro wq hSw; obtain ⟨hSb, se0, se1, se2, se3, se4, se5, se6, se7, se8, sk0, sk1, sk2, sk3, sk4, sk5, sk6, sk7, sk8, sd0, sd1, sd2, sd3, sd4, sd5, sd6, sd7, sd8⟩ := hSw; go_simp; try first | with_reducible rfl | (simp; done))
        try simp only [Act.put, List.setIfInBounds_toArray, List.set_cons_zero, List.set_cons_succ]
        refine wpAnyH_ready (rs := [39]) (by kernel_rfl) (by simp) ?_
        refine AllReadyH.cons rfl (fun KK hKK => ?_) AllReadyH.nil
        go_simp
        refine (back_any i d c b a t R nw 0 _).mono ?_
        rintro e w7 ⟨rfl, hb⟩
        rw [show bk 0 = 0 from rfl]
        replace HW0 := Lib.hid (bAfter HW0.out hb HW0.out.size)
        clear hb
        dsimp only
        refine hKK.out _ _ (HKS.out _ HW0.out) (fun hHeld => ?_)
        clear hKK
        try simp only [Act.put, List.setIfInBounds_toArray, List.set_cons_zero, List.set_cons_succ]
        refine wpAnyH_take (i := 41) (oi := { dst := some _, op := _, type := _, pos := _, after := _, guard := _ }) (v := (.bool true)) rfl (by kernel_rfl) (by kernel_rfl) (by kernel_rfl) (fun _ _ _ h => h) ?_ (by assumption) ?_
        focus (refine Or.inl ⟨by rfl, ?_⟩; intro wq hSw; go_simp; try first | with_reducible rfl | (simp; done))
        try simp only [Act.put, List.setIfInBounds_toArray, List.set_cons_zero, List.set_cons_succ]
        refine wpAnyH_take (i := 42) (oi := { dst := some _, op := _, type := _, pos := _, after := _, guard := _ }) (v := (.bool true)) rfl (by kernel_rfl) (by kernel_rfl) (by kernel_rfl) (fun _ _ _ h => h) ?_ (by assumption) ?_
        focus (refine Or.inl ⟨by rfl, ?_⟩; intro wq hSw; go_simp; try first | with_reducible rfl | (simp; done))
        try simp only [Act.put, List.setIfInBounds_toArray, List.set_cons_zero, List.set_cons_succ]
        refine wpAnyH_take (i := 43) (oi := { dst := some _, op := _, type := _, pos := _, after := _, guard := _ }) (v := (.bool true)) rfl (by kernel_rfl) (by kernel_rfl) (by kernel_rfl) (fun _ _ _ h => h) ?_ (by assumption) ?_
        focus (refine Or.inl ⟨by rfl, ?_⟩; intro wq hSw; go_simp; try first | with_reducible rfl | (simp; done))
        try simp only [Act.put, List.setIfInBounds_toArray, List.set_cons_zero, List.set_cons_succ]
        refine wpAnyH_take (i := 44) (oi := { dst := some _, op := _, type := _, pos := _, after := _, guard := _ }) (v := (.agg #[.int .i64 i, .int .i64 d, .int .i64 c, .string b, .int .i64 a, .int .i64 t, .int .i64 R, .int .i64 nw, .int .i64 0])) rfl (by kernel_rfl) (by kernel_rfl) (by kernel_rfl) (fun _ _ _ h => h) ?_ (by assumption) ?_
        focus (refine Or.inl ⟨by rfl, ?_⟩; intro wq hSw; obtain ⟨hSb, se0, se1, se2, se3, se4, se5, se6, se7, se8, sk0, sk1, sk2, sk3, sk4, sk5, sk6, sk7, sk8, sd0, sd1, sd2, sd3, sd4, sd5, sd6, sd7, sd8⟩ := hSw; go_simp; try first | with_reducible rfl | (simp; done))
        try simp only [Act.put, List.setIfInBounds_toArray, List.set_cons_zero, List.set_cons_succ]
        refine wpAnyH_take (i := 45) (oi := { dst := some _, op := _, type := _, pos := _, after := _, guard := _ }) (v := ?_) rfl (by kernel_rfl) (by kernel_rfl) (by kernel_rfl) (fun _ _ _ h => h) ?_ (by assumption) ?_
        rotate_left 1
        focus (refine Or.inl ⟨by rfl, ?_⟩; intro wq hSw; go_simp; try first | with_reducible rfl | (simp; done))
        try simp only [Act.put, List.setIfInBounds_toArray, List.set_cons_zero, List.set_cons_succ]
        refine wpAnyH_take (i := 46) (oi := { dst := some _, op := _, type := _, pos := _, after := _, guard := _ }) (v := ?_) rfl (by kernel_rfl) (by kernel_rfl) (by kernel_rfl) (fun _ _ _ h => h) ?_ (by assumption) ?_
        rotate_left 1
        focus (refine Or.inl ⟨by rfl, ?_⟩; intro wq hSw; go_simp; try first | with_reducible rfl | (simp; done))
        try simp only [Act.put, List.setIfInBounds_toArray, List.set_cons_zero, List.set_cons_succ]
        refine wpAnyH_take (i := 47) (oi := { dst := some _, op := _, type := _, pos := _, after := _, guard := _ }) (v := (.int .i64 nw)) rfl (by kernel_rfl) (by kernel_rfl) (by kernel_rfl) (fun _ _ _ h => h) ?_ (by assumption) ?_
        focus (refine Or.inl ⟨by rfl, ?_⟩; intro wq hSw; go_simp; try first | with_reducible rfl | (simp [hwi]; done))
        try simp only [Act.put, List.setIfInBounds_toArray, List.set_cons_zero, List.set_cons_succ]
        refine wpAnyH_ready (rs := [48]) (by kernel_rfl) (by simp) ?_
        refine AllReadyH.cons rfl (fun KK hKK => ?_) AllReadyH.nil
        go_simp
        refine (ready_any i d c b a t R nw 0 nw _ HM.out).mono ?_
        rintro e w8 ⟨rfl, hb⟩
        rw [hrd]
        replace HW0 := Lib.hid (bAfter HW0.out hb HW0.out.size)
        clear hb
        dsimp only
        refine hKK.out _ _ (HKS.out _ HW0.out) (fun hHeld => ?_)
        clear hKK
        try simp only [Act.put, List.setIfInBounds_toArray, List.set_cons_zero, List.set_cons_succ]
        refine wpAnyH_take (i := 49) (oi := { dst := some _, op := _, type := _, pos := _, after := _, guard := _ }) (v := (.bool true)) rfl (by kernel_rfl) (by kernel_rfl) (by kernel_rfl) (fun _ _ _ h => h) ?_ (by assumption) ?_
        focus (refine Or.inl ⟨by rfl, ?_⟩; intro wq hSw; go_simp; try first | with_reducible rfl | (simp; done))
        try simp only [Act.put, List.setIfInBounds_toArray, List.set_cons_zero, List.set_cons_succ]
        refine wpAnyH_take (i := 50) (oi := { dst := some _, op := _, type := _, pos := _, after := _, guard := _ }) (v := undef) rfl (by kernel_rfl) (by kernel_rfl) (by kernel_rfl) (fun _ _ _ h => h) ?_ (by assumption) ?_
        focus (exact Or.inr ⟨by rfl, rfl⟩)
        try simp only [Act.put, List.setIfInBounds_toArray, List.set_cons_zero, List.set_cons_succ]
        refine wpAnyH_take (i := 51) (oi := { dst := some _, op := _, type := _, pos := _, after := _, guard := _ }) (v := undef) rfl (by kernel_rfl) (by kernel_rfl) (by kernel_rfl) (fun _ _ _ h => h) ?_ (by assumption) ?_
        focus (exact Or.inr ⟨by rfl, rfl⟩)
        try simp only [Act.put, List.setIfInBounds_toArray, List.set_cons_zero, List.set_cons_succ]
        refine wpAnyH_take (i := 52) (oi := { dst := some _, op := _, type := _, pos := _, after := _, guard := _ }) (v := undef) rfl (by kernel_rfl) (by kernel_rfl) (by kernel_rfl) (fun _ _ _ h => h) ?_ (by assumption) ?_
        focus (exact Or.inr ⟨by rfl, rfl⟩)
        try simp only [Act.put, List.setIfInBounds_toArray, List.set_cons_zero, List.set_cons_succ]
        refine wpAnyH_take (i := 53) (oi := { dst := some _, op := _, type := _, pos := _, after := _, guard := _ }) (v := undef) rfl (by kernel_rfl) (by kernel_rfl) (by kernel_rfl) (fun _ _ _ h => h) ?_ (by assumption) ?_
        focus (exact Or.inr ⟨by rfl, rfl⟩)
        try simp only [Act.put, List.setIfInBounds_toArray, List.set_cons_zero, List.set_cons_succ]
        refine wpAnyH_take (i := 54) (oi := { dst := some _, op := _, type := _, pos := _, after := _, guard := _ }) (v := undef) rfl (by kernel_rfl) (by kernel_rfl) (by kernel_rfl) (fun _ _ _ h => h) ?_ (by assumption) ?_
        focus (exact Or.inr ⟨by rfl, rfl⟩)
        try simp only [Act.put, List.setIfInBounds_toArray, List.set_cons_zero, List.set_cons_succ]
        refine wpAnyH_take (i := 55) (oi := { dst := some _, op := _, type := _, pos := _, after := _, guard := _ }) (v := (.bool true)) rfl (by kernel_rfl) (by kernel_rfl) (by kernel_rfl) (fun _ _ _ h => h) ?_ (by assumption) ?_
        focus (refine Or.inl ⟨by rfl, ?_⟩; intro wq hSw; go_simp; try first | with_reducible rfl | (simp; done))
        try simp only [Act.put, List.setIfInBounds_toArray, List.set_cons_zero, List.set_cons_succ]
        refine wpAnyH_take (i := 56) (oi := { dst := some _, op := _, type := _, pos := _, after := _, guard := _ }) (v := (.bool true)) rfl (by kernel_rfl) (by kernel_rfl) (by kernel_rfl) (fun _ _ _ h => h) ?_ (by assumption) ?_
        focus (refine Or.inl ⟨by rfl, ?_⟩; intro wq hSw; go_simp; try first | with_reducible rfl | (simp; done))
        try simp only [Act.put, List.setIfInBounds_toArray, List.set_cons_zero, List.set_cons_succ]
        refine wpAnyH_take (i := 57) (oi := { dst := some _, op := _, type := _, pos := _, after := _, guard := _ }) (v := (.bool true)) rfl (by kernel_rfl) (by kernel_rfl) (by kernel_rfl) (fun _ _ _ h => h) ?_ (by assumption) ?_
        focus (refine Or.inl ⟨by rfl, ?_⟩; intro wq hSw; go_simp; try first | with_reducible rfl | (simp; done))
        try simp only [Act.put, List.setIfInBounds_toArray, List.set_cons_zero, List.set_cons_succ]
        refine wpAnyH_done (by kernel_rfl) ?_ _
        go_wp2_with fail
        go_ret
        exact ⟨rfl, bAfter HL.out HW0.out HL.out.size⟩
    · have hdr : decide (100000 ≤ r) = false := decide_eq_false hbig
      have hru : IntKind.i64.wrap (r + 1) = R := by
        have h1 := HDE.out
        unfold DEv at h1
        rw [IntWalk.i64_in _ (by omega), HR.out]
        unfold upT
        rw [if_pos (by omega)]
      by_cases hx : a + t ≤ nw
      · have hrd : rdyB a t nw 0 nw = false := decide_eq_false (fun h => h.2.2 hx)
        have hod : oldB a t 0 nw = true := decide_eq_true ⟨.inl rfl, hx⟩
        refine wp_region_held_drew (S := fun w' => Below V2.heap.size V2 w' ∧ w'.cell? ⟨w1.heap.size, 0, none⟩ = some (.int .i64 i) ∧ w'.cell? ⟨w1.heap.size, 1, none⟩ = some (.int .i64 d) ∧ w'.cell? ⟨w1.heap.size, 2, none⟩ = some (.int .i64 c) ∧ w'.cell? ⟨w1.heap.size, 3, none⟩ = some (.string b) ∧ w'.cell? ⟨w1.heap.size, 4, none⟩ = some (.int .i64 a) ∧ w'.cell? ⟨w1.heap.size, 5, none⟩ = some (.int .i64 t) ∧ w'.cell? ⟨w1.heap.size, 6, none⟩ = some (.int .i64 r) ∧ w'.cell? ⟨w1.heap.size, 7, none⟩ = some (.int .i64 n) ∧ w'.cell? ⟨w1.heap.size, 8, none⟩ = some (.int .i64 s) ∧ w'.cell? ⟨w2.heap.size, 0, none⟩ = some (.int .i64 i) ∧ w'.cell? ⟨w2.heap.size, 1, none⟩ = some (.int .i64 d) ∧ w'.cell? ⟨w2.heap.size, 2, none⟩ = some (.int .i64 c) ∧ w'.cell? ⟨w2.heap.size, 3, none⟩ = some (.string b) ∧ w'.cell? ⟨w2.heap.size, 4, none⟩ = some (.int .i64 a) ∧ w'.cell? ⟨w2.heap.size, 5, none⟩ = some (.int .i64 t) ∧ w'.cell? ⟨w2.heap.size, 6, none⟩ = some (.int .i64 R) ∧ w'.cell? ⟨w2.heap.size, 7, none⟩ = some (.int .i64 nw) ∧ w'.cell? ⟨w2.heap.size, 8, none⟩ = some (.int .i64 1) ∧ w'.cell? ⟨w5.heap.size, 0, none⟩ = some (.int .i64 i) ∧ w'.cell? ⟨w5.heap.size, 1, none⟩ = some (.int .i64 d) ∧ w'.cell? ⟨w5.heap.size, 2, none⟩ = some (.int .i64 c) ∧ w'.cell? ⟨w5.heap.size, 3, none⟩ = some (.string b) ∧ w'.cell? ⟨w5.heap.size, 4, none⟩ = some (.int .i64 a) ∧ w'.cell? ⟨w5.heap.size, 5, none⟩ = some (.int .i64 t) ∧ w'.cell? ⟨w5.heap.size, 6, none⟩ = some (.int .i64 R) ∧ w'.cell? ⟨w5.heap.size, 7, none⟩ = some (.int .i64 nw) ∧ w'.cell? ⟨w5.heap.size, 8, none⟩ = some (.int .i64 0)) (by kernel_rfl) (HKS.out _ HW0.out) (fun hHeld => ?_)
        refine wpAnyH_take (i := 0) (oi := { dst := some _, op := _, type := _, pos := _, after := _, guard := _ }) (v := ?_) rfl (by kernel_rfl) (by kernel_rfl) (by kernel_rfl) (fun _ _ _ h => h) ?_ (by assumption) ?_
        rotate_left 1
        focus (refine Or.inl ⟨by rfl, ?_⟩; intro wq hSw; go_simp; try first | with_reducible rfl | (simp; done))
        try simp only [Act.put, List.setIfInBounds_toArray, List.set_cons_zero, List.set_cons_succ]
        refine wpAnyH_take (i := 1) (oi := { dst := some _, op := _, type := _, pos := _, after := _, guard := _ }) (v := (.int .i64 1)) rfl (by kernel_rfl) (by kernel_rfl) (by kernel_rfl) (fun _ _ _ h => h) ?_ (by assumption) ?_
        focus (refine Or.inl ⟨by rfl, ?_⟩; intro wq hSw; obtain ⟨hSb, se0, se1, se2, se3, se4, se5, se6, se7, se8, sk0, sk1, sk2, sk3, sk4, sk5, sk6, sk7, sk8, sd0, sd1, sd2, sd3, sd4, sd5, sd6, sd7, sd8⟩ := hSw; go_simp; try first | with_reducible rfl | (simp; done))
        try simp only [Act.put, List.setIfInBounds_toArray, List.set_cons_zero, List.set_cons_succ]
        refine wpAnyH_take (i := 2) (oi := { dst := some _, op := _, type := _, pos := _, after := _, guard := _ }) (v := (.bool true)) rfl (by kernel_rfl) (by kernel_rfl) (by kernel_rfl) (fun _ _ _ h => h) ?_ (by assumption) ?_
        focus (refine Or.inl ⟨by rfl, ?_⟩; intro wq hSw; go_simp; try first | with_reducible rfl | (simp; done))
        try simp only [Act.put, List.setIfInBounds_toArray, List.set_cons_zero, List.set_cons_succ]
        refine wpAnyH_take (i := 3) (oi := { dst := some _, op := _, type := _, pos := _, after := _, guard := _ }) (v := (.bool true)) rfl (by kernel_rfl) (by kernel_rfl) (by kernel_rfl) (fun _ _ _ h => h) ?_ (by assumption) ?_
        focus (refine Or.inl ⟨by rfl, ?_⟩; intro wq hSw; go_simp; try first | with_reducible rfl | (simp; done))
        try simp only [Act.put, List.setIfInBounds_toArray, List.set_cons_zero, List.set_cons_succ]
        refine wpAnyH_take (i := 4) (oi := { dst := some _, op := _, type := _, pos := _, after := _, guard := _ }) (v := ?_) rfl (by kernel_rfl) (by kernel_rfl) (by kernel_rfl) (fun _ _ _ h => h) ?_ (by assumption) ?_
        rotate_left 1
        focus (refine Or.inl ⟨by rfl, ?_⟩; intro wq hSw; go_simp; try first | with_reducible rfl | (simp; done))
        try simp only [Act.put, List.setIfInBounds_toArray, List.set_cons_zero, List.set_cons_succ]
        refine wpAnyH_take (i := 5) (oi := { dst := some _, op := _, type := _, pos := _, after := _, guard := _ }) (v := (.int .i64 nw)) rfl (by kernel_rfl) (by kernel_rfl) (by kernel_rfl) (fun _ _ _ h => h) ?_ (by assumption) ?_
        focus (refine Or.inl ⟨by rfl, ?_⟩; intro wq hSw; obtain ⟨hSb, se0, se1, se2, se3, se4, se5, se6, se7, se8, sk0, sk1, sk2, sk3, sk4, sk5, sk6, sk7, sk8, sd0, sd1, sd2, sd3, sd4, sd5, sd6, sd7, sd8⟩ := hSw; go_simp; try first | with_reducible rfl | (simp; done))
        try simp only [Act.put, List.setIfInBounds_toArray, List.set_cons_zero, List.set_cons_succ]
        refine wpAnyH_take (i := 6) (oi := { dst := some _, op := _, type := _, pos := _, after := _, guard := _ }) (v := ?_) rfl (by kernel_rfl) (by kernel_rfl) (by kernel_rfl) (fun _ _ _ h => h) ?_ (by assumption) ?_
        rotate_left 1
        focus (refine Or.inl ⟨by rfl, ?_⟩; intro wq hSw; go_simp; try first | with_reducible rfl | (simp; done))
        try simp only [Act.put, List.setIfInBounds_toArray, List.set_cons_zero, List.set_cons_succ]
        refine wpAnyH_take (i := 7) (oi := { dst := some _, op := _, type := _, pos := _, after := _, guard := _ }) (v := ?_) rfl (by kernel_rfl) (by kernel_rfl) (by kernel_rfl) (fun _ _ _ h => h) ?_ (by assumption) ?_
        rotate_left 1
        focus (refine Or.inl ⟨by rfl, ?_⟩; intro wq hSw; go_simp; try first | with_reducible rfl | (simp; done))
        try simp only [Act.put, List.setIfInBounds_toArray, List.set_cons_zero, List.set_cons_succ]
        refine wpAnyH_take (i := 8) (oi := { dst := some _, op := _, type := _, pos := _, after := _, guard := _ }) (v := (.int .i64 nw)) rfl (by kernel_rfl) (by kernel_rfl) (by kernel_rfl) (fun _ _ _ h => h) ?_ (by assumption) ?_
        focus (refine Or.inl ⟨by rfl, ?_⟩; intro wq hSw; go_simp; try first | with_reducible rfl | (simp [hwi]; done))
        try simp only [Act.put, List.setIfInBounds_toArray, List.set_cons_zero, List.set_cons_succ]
        refine wpAnyH_take (i := 9) (oi := { dst := some _, op := _, type := _, pos := _, after := _, guard := _ }) (v := (.bool true)) rfl (by kernel_rfl) (by kernel_rfl) (by kernel_rfl) (fun _ _ _ h => h) ?_ (by assumption) ?_
        focus (refine Or.inl ⟨by rfl, ?_⟩; intro wq hSw; go_simp; try first | with_reducible rfl | (simp; done))
        try simp only [Act.put, List.setIfInBounds_toArray, List.set_cons_zero, List.set_cons_succ]
        refine wpAnyH_take (i := 10) (oi := { dst := some _, op := _, type := _, pos := _, after := _, guard := _ }) (v := (.bool true)) rfl (by kernel_rfl) (by kernel_rfl) (by kernel_rfl) (fun _ _ _ h => h) ?_ (by assumption) ?_
        focus (refine Or.inl ⟨by rfl, ?_⟩; intro wq hSw; go_simp; try first | with_reducible rfl | (simp; done))
        try simp only [Act.put, List.setIfInBounds_toArray, List.set_cons_zero, List.set_cons_succ]
        refine wpAnyH_take (i := 11) (oi := { dst := some _, op := _, type := _, pos := _, after := _, guard := _ }) (v := (.bool true)) rfl (by kernel_rfl) (by kernel_rfl) (by kernel_rfl) (fun _ _ _ h => h) ?_ (by assumption) ?_
        focus (refine Or.inl ⟨by rfl, ?_⟩; intro wq hSw; go_simp; try first | with_reducible rfl | (simp; done))
        try simp only [Act.put, List.setIfInBounds_toArray, List.set_cons_zero, List.set_cons_succ]
        refine wpAnyH_take (i := 12) (oi := { dst := some _, op := _, type := _, pos := _, after := _, guard := _ }) (v := (.agg #[.int .i64 i, .int .i64 d, .int .i64 c, .string b, .int .i64 a, .int .i64 t, .int .i64 R, .int .i64 nw, .int .i64 1])) rfl (by kernel_rfl) (by kernel_rfl) (by kernel_rfl) (fun _ _ _ h => h) ?_ (by assumption) ?_
        focus (refine Or.inl ⟨by rfl, ?_⟩; intro wq hSw; obtain ⟨hSb, se0, se1, se2, se3, se4, se5, se6, se7, se8, sk0, sk1, sk2, sk3, sk4, sk5, sk6, sk7, sk8, sd0, sd1, sd2, sd3, sd4, sd5, sd6, sd7, sd8⟩ := hSw; go_simp; try first | with_reducible rfl | (simp; done))
        try simp only [Act.put, List.setIfInBounds_toArray, List.set_cons_zero, List.set_cons_succ]
        refine wpAnyH_take (i := 13) (oi := { dst := some _, op := _, type := _, pos := _, after := _, guard := _ }) (v := ?_) rfl (by kernel_rfl) (by kernel_rfl) (by kernel_rfl) (fun _ _ _ h => h) ?_ (by assumption) ?_
        rotate_left 1
        focus (refine Or.inl ⟨by rfl, ?_⟩; intro wq hSw; go_simp; try first | with_reducible rfl | (simp; done))
        try simp only [Act.put, List.setIfInBounds_toArray, List.set_cons_zero, List.set_cons_succ]
        refine wpAnyH_take (i := 14) (oi := { dst := some _, op := _, type := _, pos := _, after := _, guard := _ }) (v := ?_) rfl (by kernel_rfl) (by kernel_rfl) (by kernel_rfl) (fun _ _ _ h => h) ?_ (by assumption) ?_
        rotate_left 1
        focus (refine Or.inl ⟨by rfl, ?_⟩; intro wq hSw; go_simp; try first | with_reducible rfl | (simp; done))
        try simp only [Act.put, List.setIfInBounds_toArray, List.set_cons_zero, List.set_cons_succ]
        refine wpAnyH_take (i := 15) (oi := { dst := some _, op := _, type := _, pos := _, after := _, guard := _ }) (v := (.int .i64 nw)) rfl (by kernel_rfl) (by kernel_rfl) (by kernel_rfl) (fun _ _ _ h => h) ?_ (by assumption) ?_
        focus (refine Or.inl ⟨by rfl, ?_⟩; intro wq hSw; go_simp; try first | with_reducible rfl | (simp [hwi]; done))
        try simp only [Act.put, List.setIfInBounds_toArray, List.set_cons_zero, List.set_cons_succ]
        refine wpAnyH_ready (rs := [16]) (by kernel_rfl) (by simp) ?_
        refine AllReadyH.cons rfl (fun KK hKK => ?_) AllReadyH.nil
        go_simp
        refine (ready_any i d c b a t R nw 1 nw _ HM.out).mono ?_
        rintro e w6 ⟨rfl, hb⟩
        rw [HR1.out]
        replace HW0 := Lib.hid (bAfter HW0.out hb HW0.out.size)
        clear hb
        dsimp only
        refine hKK.out _ _ (HKS.out _ HW0.out) (fun hHeld => ?_)
        clear hKK
        try simp only [Act.put, List.setIfInBounds_toArray, List.set_cons_zero, List.set_cons_succ]
        refine wpAnyH_take (i := 17) (oi := { dst := some _, op := _, type := _, pos := _, after := _, guard := _ }) (v := (.bool true)) rfl (by kernel_rfl) (by kernel_rfl) (by kernel_rfl) (fun _ _ _ h => h) ?_ (by assumption) ?_
        focus (refine Or.inl ⟨by rfl, ?_⟩; intro wq hSw; go_simp; try first | with_reducible rfl | (simp; done))
        try simp only [Act.put, List.setIfInBounds_toArray, List.set_cons_zero, List.set_cons_succ]
        refine wpAnyH_take (i := 18) (oi := { dst := some _, op := _, type := _, pos := _, after := _, guard := _ }) (v := (.bool true)) rfl (by kernel_rfl) (by kernel_rfl) (by kernel_rfl) (fun _ _ _ h => h) ?_ (by assumption) ?_
        focus (refine Or.inl ⟨by rfl, ?_⟩; intro wq hSw; go_simp; try first | with_reducible rfl | (simp; done))
        try simp only [Act.put, List.setIfInBounds_toArray, List.set_cons_zero, List.set_cons_succ]
        refine wpAnyH_take (i := 19) (oi := { dst := some _, op := _, type := _, pos := _, after := _, guard := _ }) (v := (.bool true)) rfl (by kernel_rfl) (by kernel_rfl) (by kernel_rfl) (fun _ _ _ h => h) ?_ (by assumption) ?_
        focus (refine Or.inl ⟨by rfl, ?_⟩; intro wq hSw; go_simp; try first | with_reducible rfl | (simp; done))
        try simp only [Act.put, List.setIfInBounds_toArray, List.set_cons_zero, List.set_cons_succ]
        refine wpAnyH_take (i := 20) (oi := { dst := some _, op := _, type := _, pos := _, after := _, guard := _ }) (v := ?_) rfl (by kernel_rfl) (by kernel_rfl) (by kernel_rfl) (fun _ _ _ h => h) ?_ (by assumption) ?_
        rotate_left 1
        focus (refine Or.inl ⟨by rfl, ?_⟩; intro wq hSw; go_simp; try first | with_reducible rfl | (simp; done))
        try simp only [Act.put, List.setIfInBounds_toArray, List.set_cons_zero, List.set_cons_succ]
        refine wpAnyH_take (i := 21) (oi := { dst := some _, op := _, type := _, pos := _, after := _, guard := _ }) (v := (.int .i64 0)) rfl (by kernel_rfl) (by kernel_rfl) (by kernel_rfl) (fun _ _ _ h => h) ?_ (by assumption) ?_
        focus (refine Or.inl ⟨by rfl, ?_⟩; intro wq hSw; obtain ⟨hSb, se0, se1, se2, se3, se4, se5, se6, se7, se8, sk0, sk1, sk2, sk3, sk4, sk5, sk6, sk7, sk8, sd0, sd1, sd2, sd3, sd4, sd5, sd6, sd7, sd8⟩ := hSw; go_simp; try first | with_reducible rfl | (simp; done))
        try simp only [Act.put, List.setIfInBounds_toArray, List.set_cons_zero, List.set_cons_succ]
        refine wpAnyH_take (i := 22) (oi := { dst := some _, op := _, type := _, pos := _, after := _, guard := _ }) (v := (.bool true)) rfl (by kernel_rfl) (by kernel_rfl) (by kernel_rfl) (fun _ _ _ h => h) ?_ (by assumption) ?_
        focus (refine Or.inl ⟨by rfl, ?_⟩; intro wq hSw; go_simp; try first | with_reducible rfl | (simp; done))
        try simp only [Act.put, List.setIfInBounds_toArray, List.set_cons_zero, List.set_cons_succ]
        refine wpAnyH_take (i := 23) (oi := { dst := some _, op := _, type := _, pos := _, after := _, guard := _ }) (v := (.bool true)) rfl (by kernel_rfl) (by kernel_rfl) (by kernel_rfl) (fun _ _ _ h => h) ?_ (by assumption) ?_
        focus (refine Or.inl ⟨by rfl, ?_⟩; intro wq hSw; go_simp; try first | with_reducible rfl | (simp; done))
        try simp only [Act.put, List.setIfInBounds_toArray, List.set_cons_zero, List.set_cons_succ]
        refine wpAnyH_take (i := 24) (oi := { dst := some _, op := _, type := _, pos := _, after := _, guard := _ }) (v := (.bool true)) rfl (by kernel_rfl) (by kernel_rfl) (by kernel_rfl) (fun _ _ _ h => h) ?_ (by assumption) ?_
        focus (refine Or.inl ⟨by rfl, ?_⟩; intro wq hSw; go_simp; try first | with_reducible rfl | (simp; done))
        try simp only [Act.put, List.setIfInBounds_toArray, List.set_cons_zero, List.set_cons_succ]
        refine wpAnyH_take (i := 25) (oi := { dst := some _, op := _, type := _, pos := _, after := _, guard := _ }) (v := ?_) rfl (by kernel_rfl) (by kernel_rfl) (by kernel_rfl) (fun _ _ _ h => h) ?_ (by assumption) ?_
        rotate_left 1
        focus (refine Or.inl ⟨by rfl, ?_⟩; intro wq hSw; go_simp; try first | with_reducible rfl | (simp; done))
        try simp only [Act.put, List.setIfInBounds_toArray, List.set_cons_zero, List.set_cons_succ]
        refine wpAnyH_take (i := 26) (oi := { dst := some _, op := _, type := _, pos := _, after := _, guard := _ }) (v := (.int .i64 r)) rfl (by kernel_rfl) (by kernel_rfl) (by kernel_rfl) (fun _ _ _ h => h) ?_ (by assumption) ?_
        focus (refine Or.inl ⟨by rfl, ?_⟩; intro wq hSw; obtain ⟨hSb, se0, se1, se2, se3, se4, se5, se6, se7, se8, sk0, sk1, sk2, sk3, sk4, sk5, sk6, sk7, sk8, sd0, sd1, sd2, sd3, sd4, sd5, sd6, sd7, sd8⟩ := hSw; go_simp; try first | with_reducible rfl | (simp; done))
        try simp only [Act.put, List.setIfInBounds_toArray, List.set_cons_zero, List.set_cons_succ]
        refine wpAnyH_take (i := 27) (oi := { dst := some _, op := _, type := _, pos := _, after := _, guard := _ }) (v := (.bool false)) rfl (by kernel_rfl) (by kernel_rfl) (by kernel_rfl) (fun _ _ _ h => h) ?_ (by assumption) ?_
        focus (refine Or.inl ⟨by rfl, ?_⟩; intro wq hSw; go_simp; try first | with_reducible rfl | (simp [hdr]; done))
        try simp only [Act.put, List.setIfInBounds_toArray, List.set_cons_zero, List.set_cons_succ]
        refine wpAnyH_take (i := 28) (oi := { dst := some _, op := _, type := _, pos := _, after := _, guard := _ }) (v := (.bool false)) rfl (by kernel_rfl) (by kernel_rfl) (by kernel_rfl) (fun _ _ _ h => h) ?_ (by assumption) ?_
        focus (refine Or.inl ⟨by rfl, ?_⟩; intro wq hSw; go_simp; try first | with_reducible rfl | (simp; done))
        try simp only [Act.put, List.setIfInBounds_toArray, List.set_cons_zero, List.set_cons_succ]
        refine wpAnyH_take (i := 29) (oi := { dst := some _, op := _, type := _, pos := _, after := _, guard := _ }) (v := ?_) rfl (by kernel_rfl) (by kernel_rfl) (by kernel_rfl) (fun _ _ _ h => h) ?_ (by assumption) ?_
        rotate_left 1
        focus (refine Or.inl ⟨by rfl, ?_⟩; intro wq hSw; go_simp; try first | with_reducible rfl | (simp; done))
        try simp only [Act.put, List.setIfInBounds_toArray, List.set_cons_zero, List.set_cons_succ]
        refine wpAnyH_take (i := 30) (oi := { dst := some _, op := _, type := _, pos := _, after := _, guard := _ }) (v := (.int .i64 R)) rfl (by kernel_rfl) (by kernel_rfl) (by kernel_rfl) (fun _ _ _ h => h) ?_ (by assumption) ?_
        focus (refine Or.inl ⟨by rfl, ?_⟩; intro wq hSw; obtain ⟨hSb, se0, se1, se2, se3, se4, se5, se6, se7, se8, sk0, sk1, sk2, sk3, sk4, sk5, sk6, sk7, sk8, sd0, sd1, sd2, sd3, sd4, sd5, sd6, sd7, sd8⟩ := hSw; go_simp; try first | with_reducible rfl | (simp; done))
        try simp only [Act.put, List.setIfInBounds_toArray, List.set_cons_zero, List.set_cons_succ]
        refine wpAnyH_take (i := 31) (oi := { dst := some _, op := _, type := _, pos := _, after := _, guard := _ }) (v := ?_) rfl (by kernel_rfl) (by kernel_rfl) (by kernel_rfl) (fun _ _ _ h => h) ?_ (by assumption) ?_
        rotate_left 1
        focus (refine Or.inl ⟨by rfl, ?_⟩; intro wq hSw; go_simp; try first | with_reducible rfl | (simp; done))
        try simp only [Act.put, List.setIfInBounds_toArray, List.set_cons_zero, List.set_cons_succ]
        refine wpAnyH_take (i := 32) (oi := { dst := some _, op := _, type := _, pos := _, after := _, guard := _ }) (v := (.int .i64 r)) rfl (by kernel_rfl) (by kernel_rfl) (by kernel_rfl) (fun _ _ _ h => h) ?_ (by assumption) ?_
        focus (refine Or.inl ⟨by rfl, ?_⟩; intro wq hSw; obtain ⟨hSb, se0, se1, se2, se3, se4, se5, se6, se7, se8, sk0, sk1, sk2, sk3, sk4, sk5, sk6, sk7, sk8, sd0, sd1, sd2, sd3, sd4, sd5, sd6, sd7, sd8⟩ := hSw; go_simp; try first | with_reducible rfl | (simp; done))
        try simp only [Act.put, List.setIfInBounds_toArray, List.set_cons_zero, List.set_cons_succ]
        refine wpAnyH_take (i := 33) (oi := { dst := some _, op := _, type := _, pos := _, after := _, guard := _ }) (v := (.int .i64 R)) rfl (by kernel_rfl) (by kernel_rfl) (by kernel_rfl) (fun _ _ _ h => h) ?_ (by assumption) ?_
        focus (refine Or.inl ⟨by rfl, ?_⟩; intro wq hSw; go_simp; try first | with_reducible rfl | (simp [hru]; done))
        try simp only [Act.put, List.setIfInBounds_toArray, List.set_cons_zero, List.set_cons_succ]
        refine wpAnyH_take (i := 34) (oi := { dst := some _, op := _, type := _, pos := _, after := _, guard := _ }) (v := (.bool true)) rfl (by kernel_rfl) (by kernel_rfl) (by kernel_rfl) (fun _ _ _ h => h) ?_ (by assumption) ?_
        focus (refine Or.inl ⟨by rfl, ?_⟩; intro wq hSw; go_simp; try first | with_reducible rfl | (simp; done))
        try simp only [Act.put, List.setIfInBounds_toArray, List.set_cons_zero, List.set_cons_succ]
        refine wpAnyH_take (i := 35) (oi := { dst := some _, op := _, type := _, pos := _, after := _, guard := _ }) (v := (.bool true)) rfl (by kernel_rfl) (by kernel_rfl) (by kernel_rfl) (fun _ _ _ h => h) ?_ (by assumption) ?_
        focus (refine Or.inl ⟨by rfl, ?_⟩; intro wq hSw; go_simp; try first | with_reducible rfl | (simp; done))
        try simp only [Act.put, List.setIfInBounds_toArray, List.set_cons_zero, List.set_cons_succ]
        refine wpAnyH_take (i := 36) (oi := { dst := some _, op := _, type := _, pos := _, after := _, guard := _ }) (v := (.bool true)) rfl (by kernel_rfl) (by kernel_rfl) (by kernel_rfl) (fun _ _ _ h => h) ?_ (by assumption) ?_
        focus (refine Or.inl ⟨by rfl, ?_⟩; intro wq hSw; go_simp; try first | with_reducible rfl | (simp; done))
        try simp only [Act.put, List.setIfInBounds_toArray, List.set_cons_zero, List.set_cons_succ]
        refine wpAnyH_take (i := 37) (oi := { dst := some _, op := _, type := _, pos := _, after := _, guard := _ }) (v := (.bool true)) rfl (by kernel_rfl) (by kernel_rfl) (by kernel_rfl) (fun _ _ _ h => h) ?_ (by assumption) ?_
        focus (refine Or.inl ⟨by rfl, ?_⟩; intro wq hSw; go_simp; try first | with_reducible rfl | (simp; done))
        try simp only [Act.put, List.setIfInBounds_toArray, List.set_cons_zero, List.set_cons_succ]
        refine wpAnyH_take (i := 38) (oi := { dst := some _, op := _, type := _, pos := _, after := _, guard := _ }) (v := (.agg #[.int .i64 i, .int .i64 d, .int .i64 c, .string b, .int .i64 a, .int .i64 t, .int .i64 R, .int .i64 nw, .int .i64 0])) rfl (by kernel_rfl) (by kernel_rfl) (by kernel_rfl) (fun _ _ _ h => h) ?_ (by assumption) ?_
        focus (refine Or.inl ⟨by rfl, ?_⟩; intro wq hSw; obtain ⟨hSb, se0, se1, se2, se3, se4, se5, se6, se7, se8, sk0, sk1, sk2, sk3, sk4, sk5, sk6, sk7, sk8, sd0, sd1, sd2, sd3, sd4, sd5, sd6, sd7, sd8⟩ := hSw; go_simp; try first | with_reducible rfl | (simp; done))
        try simp only [Act.put, List.setIfInBounds_toArray, List.set_cons_zero, List.set_cons_succ]
        refine wpAnyH_take (i := 40) (oi := { dst := some _, op := _, type := _, pos := _, after := _, guard := _ }) (v := (.agg #[.int .i64 i, .int .i64 d, .int .i64 c, .string b, .int .i64 a, .int .i64 t, .int .i64 R, .int .i64 nw, .int .i64 0])) rfl (by kernel_rfl) (by kernel_rfl) (by kernel_rfl) (fun _ _ _ h => h) ?_ (by assumption) ?_
        focus (refine Or.inl ⟨by rfl, ?_⟩; intro wq hSw; obtain ⟨hSb, se0, se1, se2, se3, se4, se5, se6, se7, se8, sk0, sk1, sk2, sk3, sk4, sk5, sk6, sk7, sk8, sd0, sd1, sd2, sd3, sd4, sd5, sd6, sd7, sd8⟩ := hSw; go_simp; try first | with_reducible rfl | (simp; done))
        try simp only [Act.put, List.setIfInBounds_toArray, List.set_cons_zero, List.set_cons_succ]
        refine wpAnyH_ready (rs := [39]) (by kernel_rfl) (by simp) ?_
        refine AllReadyH.cons rfl (fun KK hKK => ?_) AllReadyH.nil
        go_simp
        refine (back_any i d c b a t R nw 0 _).mono ?_
        rintro e w7 ⟨rfl, hb⟩
        rw [show bk 0 = 0 from rfl]
        replace HW0 := Lib.hid (bAfter HW0.out hb HW0.out.size)
        clear hb
        dsimp only
        refine hKK.out _ _ (HKS.out _ HW0.out) (fun hHeld => ?_)
        clear hKK
        try simp only [Act.put, List.setIfInBounds_toArray, List.set_cons_zero, List.set_cons_succ]
        refine wpAnyH_take (i := 41) (oi := { dst := some _, op := _, type := _, pos := _, after := _, guard := _ }) (v := (.bool true)) rfl (by kernel_rfl) (by kernel_rfl) (by kernel_rfl) (fun _ _ _ h => h) ?_ (by assumption) ?_
        focus (refine Or.inl ⟨by rfl, ?_⟩; intro wq hSw; go_simp; try first | with_reducible rfl | (simp; done))
        try simp only [Act.put, List.setIfInBounds_toArray, List.set_cons_zero, List.set_cons_succ]
        refine wpAnyH_take (i := 42) (oi := { dst := some _, op := _, type := _, pos := _, after := _, guard := _ }) (v := (.bool true)) rfl (by kernel_rfl) (by kernel_rfl) (by kernel_rfl) (fun _ _ _ h => h) ?_ (by assumption) ?_
        focus (refine Or.inl ⟨by rfl, ?_⟩; intro wq hSw; go_simp; try first | with_reducible rfl | (simp; done))
        try simp only [Act.put, List.setIfInBounds_toArray, List.set_cons_zero, List.set_cons_succ]
        refine wpAnyH_take (i := 43) (oi := { dst := some _, op := _, type := _, pos := _, after := _, guard := _ }) (v := (.bool true)) rfl (by kernel_rfl) (by kernel_rfl) (by kernel_rfl) (fun _ _ _ h => h) ?_ (by assumption) ?_
        focus (refine Or.inl ⟨by rfl, ?_⟩; intro wq hSw; go_simp; try first | with_reducible rfl | (simp; done))
        try simp only [Act.put, List.setIfInBounds_toArray, List.set_cons_zero, List.set_cons_succ]
        refine wpAnyH_take (i := 44) (oi := { dst := some _, op := _, type := _, pos := _, after := _, guard := _ }) (v := (.agg #[.int .i64 i, .int .i64 d, .int .i64 c, .string b, .int .i64 a, .int .i64 t, .int .i64 R, .int .i64 nw, .int .i64 0])) rfl (by kernel_rfl) (by kernel_rfl) (by kernel_rfl) (fun _ _ _ h => h) ?_ (by assumption) ?_
        focus (refine Or.inl ⟨by rfl, ?_⟩; intro wq hSw; obtain ⟨hSb, se0, se1, se2, se3, se4, se5, se6, se7, se8, sk0, sk1, sk2, sk3, sk4, sk5, sk6, sk7, sk8, sd0, sd1, sd2, sd3, sd4, sd5, sd6, sd7, sd8⟩ := hSw; go_simp; try first | with_reducible rfl | (simp; done))
        try simp only [Act.put, List.setIfInBounds_toArray, List.set_cons_zero, List.set_cons_succ]
        refine wpAnyH_take (i := 45) (oi := { dst := some _, op := _, type := _, pos := _, after := _, guard := _ }) (v := ?_) rfl (by kernel_rfl) (by kernel_rfl) (by kernel_rfl) (fun _ _ _ h => h) ?_ (by assumption) ?_
        rotate_left 1
        focus (refine Or.inl ⟨by rfl, ?_⟩; intro wq hSw; go_simp; try first | with_reducible rfl | (simp; done))
        try simp only [Act.put, List.setIfInBounds_toArray, List.set_cons_zero, List.set_cons_succ]
        refine wpAnyH_take (i := 46) (oi := { dst := some _, op := _, type := _, pos := _, after := _, guard := _ }) (v := ?_) rfl (by kernel_rfl) (by kernel_rfl) (by kernel_rfl) (fun _ _ _ h => h) ?_ (by assumption) ?_
        rotate_left 1
        focus (refine Or.inl ⟨by rfl, ?_⟩; intro wq hSw; go_simp; try first | with_reducible rfl | (simp; done))
        try simp only [Act.put, List.setIfInBounds_toArray, List.set_cons_zero, List.set_cons_succ]
        refine wpAnyH_take (i := 47) (oi := { dst := some _, op := _, type := _, pos := _, after := _, guard := _ }) (v := (.int .i64 nw)) rfl (by kernel_rfl) (by kernel_rfl) (by kernel_rfl) (fun _ _ _ h => h) ?_ (by assumption) ?_
        focus (refine Or.inl ⟨by rfl, ?_⟩; intro wq hSw; go_simp; try first | with_reducible rfl | (simp [hwi]; done))
        try simp only [Act.put, List.setIfInBounds_toArray, List.set_cons_zero, List.set_cons_succ]
        refine wpAnyH_ready (rs := [48]) (by kernel_rfl) (by simp) ?_
        refine AllReadyH.cons rfl (fun KK hKK => ?_) AllReadyH.nil
        go_simp
        refine (ready_any i d c b a t R nw 0 nw _ HM.out).mono ?_
        rintro e w8 ⟨rfl, hb⟩
        rw [hrd]
        replace HW0 := Lib.hid (bAfter HW0.out hb HW0.out.size)
        clear hb
        dsimp only
        refine hKK.out _ _ (HKS.out _ HW0.out) (fun hHeld => ?_)
        clear hKK
        try simp only [Act.put, List.setIfInBounds_toArray, List.set_cons_zero, List.set_cons_succ]
        refine wpAnyH_take (i := 49) (oi := { dst := some _, op := _, type := _, pos := _, after := _, guard := _ }) (v := (.bool false)) rfl (by kernel_rfl) (by kernel_rfl) (by kernel_rfl) (fun _ _ _ h => h) ?_ (by assumption) ?_
        focus (refine Or.inl ⟨by rfl, ?_⟩; intro wq hSw; go_simp; try first | with_reducible rfl | (simp; done))
        try simp only [Act.put, List.setIfInBounds_toArray, List.set_cons_zero, List.set_cons_succ]
        refine wpAnyH_take (i := 50) (oi := { dst := some _, op := _, type := _, pos := _, after := _, guard := _ }) (v := (.agg #[.int .i64 i, .int .i64 d, .int .i64 c, .string b, .int .i64 a, .int .i64 t, .int .i64 R, .int .i64 nw, .int .i64 0])) rfl (by kernel_rfl) (by kernel_rfl) (by kernel_rfl) (fun _ _ _ h => h) ?_ (by assumption) ?_
        focus (refine Or.inl ⟨by rfl, ?_⟩; intro wq hSw; obtain ⟨hSb, se0, se1, se2, se3, se4, se5, se6, se7, se8, sk0, sk1, sk2, sk3, sk4, sk5, sk6, sk7, sk8, sd0, sd1, sd2, sd3, sd4, sd5, sd6, sd7, sd8⟩ := hSw; go_simp; try first | with_reducible rfl | (simp; done))
        try simp only [Act.put, List.setIfInBounds_toArray, List.set_cons_zero, List.set_cons_succ]
        refine wpAnyH_take (i := 51) (oi := { dst := some _, op := _, type := _, pos := _, after := _, guard := _ }) (v := ?_) rfl (by kernel_rfl) (by kernel_rfl) (by kernel_rfl) (fun _ _ _ h => h) ?_ (by assumption) ?_
        rotate_left 1
        focus (refine Or.inl ⟨by rfl, ?_⟩; intro wq hSw; go_simp; try first | with_reducible rfl | (simp; done))
        try simp only [Act.put, List.setIfInBounds_toArray, List.set_cons_zero, List.set_cons_succ]
        refine wpAnyH_take (i := 52) (oi := { dst := some _, op := _, type := _, pos := _, after := _, guard := _ }) (v := ?_) rfl (by kernel_rfl) (by kernel_rfl) (by kernel_rfl) (fun _ _ _ h => h) ?_ (by assumption) ?_
        rotate_left 1
        focus (refine Or.inl ⟨by rfl, ?_⟩; intro wq hSw; go_simp; try first | with_reducible rfl | (simp; done))
        try simp only [Act.put, List.setIfInBounds_toArray, List.set_cons_zero, List.set_cons_succ]
        refine wpAnyH_take (i := 53) (oi := { dst := some _, op := _, type := _, pos := _, after := _, guard := _ }) (v := (.int .i64 nw)) rfl (by kernel_rfl) (by kernel_rfl) (by kernel_rfl) (fun _ _ _ h => h) ?_ (by assumption) ?_
        focus (refine Or.inl ⟨by rfl, ?_⟩; intro wq hSw; go_simp; try first | with_reducible rfl | (simp [hwi]; done))
        try simp only [Act.put, List.setIfInBounds_toArray, List.set_cons_zero, List.set_cons_succ]
        refine wpAnyH_ready (rs := [54]) (by kernel_rfl) (by simp) ?_
        refine AllReadyH.cons rfl (fun KK hKK => ?_) AllReadyH.nil
        go_simp
        refine (specOld_any i d c b a t R nw 0 nw _ HM.out).mono ?_
        rintro e w9 ⟨rfl, hb⟩
        rw [hod]
        replace HW0 := Lib.hid (bAfter HW0.out hb HW0.out.size)
        clear hb
        dsimp only
        refine hKK.out _ _ (HKS.out _ HW0.out) (fun hHeld => ?_)
        clear hKK
        try simp only [Act.put, List.setIfInBounds_toArray, List.set_cons_zero, List.set_cons_succ]
        refine wpAnyH_take (i := 55) (oi := { dst := some _, op := _, type := _, pos := _, after := _, guard := _ }) (v := (.bool true)) rfl (by kernel_rfl) (by kernel_rfl) (by kernel_rfl) (fun _ _ _ h => h) ?_ (by assumption) ?_
        focus (refine Or.inl ⟨by rfl, ?_⟩; intro wq hSw; go_simp; try first | with_reducible rfl | (simp; done))
        try simp only [Act.put, List.setIfInBounds_toArray, List.set_cons_zero, List.set_cons_succ]
        refine wpAnyH_take (i := 56) (oi := { dst := some _, op := _, type := _, pos := _, after := _, guard := _ }) (v := (.bool true)) rfl (by kernel_rfl) (by kernel_rfl) (by kernel_rfl) (fun _ _ _ h => h) ?_ (by assumption) ?_
        focus (refine Or.inl ⟨by rfl, ?_⟩; intro wq hSw; go_simp; try first | with_reducible rfl | (simp; done))
        try simp only [Act.put, List.setIfInBounds_toArray, List.set_cons_zero, List.set_cons_succ]
        refine wpAnyH_take (i := 57) (oi := { dst := some _, op := _, type := _, pos := _, after := _, guard := _ }) (v := (.bool true)) rfl (by kernel_rfl) (by kernel_rfl) (by kernel_rfl) (fun _ _ _ h => h) ?_ (by assumption) ?_
        focus (refine Or.inl ⟨by rfl, ?_⟩; intro wq hSw; go_simp; try first | with_reducible rfl | (simp; done))
        try simp only [Act.put, List.setIfInBounds_toArray, List.set_cons_zero, List.set_cons_succ]
        refine wpAnyH_done (by kernel_rfl) ?_ _
        go_wp2_with fail
        go_ret
        exact ⟨rfl, bAfter HL.out HW0.out HL.out.size⟩
      · have hrd : rdyB a t nw 0 nw = true := decide_eq_true ⟨rfl, Int.le_refl _, hx⟩
        refine wp_region_held_drew (S := fun w' => Below V2.heap.size V2 w' ∧ w'.cell? ⟨w1.heap.size, 0, none⟩ = some (.int .i64 i) ∧ w'.cell? ⟨w1.heap.size, 1, none⟩ = some (.int .i64 d) ∧ w'.cell? ⟨w1.heap.size, 2, none⟩ = some (.int .i64 c) ∧ w'.cell? ⟨w1.heap.size, 3, none⟩ = some (.string b) ∧ w'.cell? ⟨w1.heap.size, 4, none⟩ = some (.int .i64 a) ∧ w'.cell? ⟨w1.heap.size, 5, none⟩ = some (.int .i64 t) ∧ w'.cell? ⟨w1.heap.size, 6, none⟩ = some (.int .i64 r) ∧ w'.cell? ⟨w1.heap.size, 7, none⟩ = some (.int .i64 n) ∧ w'.cell? ⟨w1.heap.size, 8, none⟩ = some (.int .i64 s) ∧ w'.cell? ⟨w2.heap.size, 0, none⟩ = some (.int .i64 i) ∧ w'.cell? ⟨w2.heap.size, 1, none⟩ = some (.int .i64 d) ∧ w'.cell? ⟨w2.heap.size, 2, none⟩ = some (.int .i64 c) ∧ w'.cell? ⟨w2.heap.size, 3, none⟩ = some (.string b) ∧ w'.cell? ⟨w2.heap.size, 4, none⟩ = some (.int .i64 a) ∧ w'.cell? ⟨w2.heap.size, 5, none⟩ = some (.int .i64 t) ∧ w'.cell? ⟨w2.heap.size, 6, none⟩ = some (.int .i64 R) ∧ w'.cell? ⟨w2.heap.size, 7, none⟩ = some (.int .i64 nw) ∧ w'.cell? ⟨w2.heap.size, 8, none⟩ = some (.int .i64 1) ∧ w'.cell? ⟨w5.heap.size, 0, none⟩ = some (.int .i64 i) ∧ w'.cell? ⟨w5.heap.size, 1, none⟩ = some (.int .i64 d) ∧ w'.cell? ⟨w5.heap.size, 2, none⟩ = some (.int .i64 c) ∧ w'.cell? ⟨w5.heap.size, 3, none⟩ = some (.string b) ∧ w'.cell? ⟨w5.heap.size, 4, none⟩ = some (.int .i64 a) ∧ w'.cell? ⟨w5.heap.size, 5, none⟩ = some (.int .i64 t) ∧ w'.cell? ⟨w5.heap.size, 6, none⟩ = some (.int .i64 R) ∧ w'.cell? ⟨w5.heap.size, 7, none⟩ = some (.int .i64 nw) ∧ w'.cell? ⟨w5.heap.size, 8, none⟩ = some (.int .i64 0)) (by kernel_rfl) (HKS.out _ HW0.out) (fun hHeld => ?_)
        refine wpAnyH_take (i := 0) (oi := { dst := some _, op := _, type := _, pos := _, after := _, guard := _ }) (v := ?_) rfl (by kernel_rfl) (by kernel_rfl) (by kernel_rfl) (fun _ _ _ h => h) ?_ (by assumption) ?_
        rotate_left 1
        focus (refine Or.inl ⟨by rfl, ?_⟩; intro wq hSw; go_simp; try first | with_reducible rfl | (simp; done))
        try simp only [Act.put, List.setIfInBounds_toArray, List.set_cons_zero, List.set_cons_succ]
        refine wpAnyH_take (i := 1) (oi := { dst := some _, op := _, type := _, pos := _, after := _, guard := _ }) (v := (.int .i64 1)) rfl (by kernel_rfl) (by kernel_rfl) (by kernel_rfl) (fun _ _ _ h => h) ?_ (by assumption) ?_
        focus (refine Or.inl ⟨by rfl, ?_⟩; intro wq hSw; obtain ⟨hSb, se0, se1, se2, se3, se4, se5, se6, se7, se8, sk0, sk1, sk2, sk3, sk4, sk5, sk6, sk7, sk8, sd0, sd1, sd2, sd3, sd4, sd5, sd6, sd7, sd8⟩ := hSw; go_simp; try first | with_reducible rfl | (simp; done))
        try simp only [Act.put, List.setIfInBounds_toArray, List.set_cons_zero, List.set_cons_succ]
        refine wpAnyH_take (i := 2) (oi := { dst := some _, op := _, type := _, pos := _, after := _, guard := _ }) (v := (.bool true)) rfl (by kernel_rfl) (by kernel_rfl) (by kernel_rfl) (fun _ _ _ h => h) ?_ (by assumption) ?_
        focus (refine Or.inl ⟨by rfl, ?_⟩; intro wq hSw; go_simp; try first | with_reducible rfl | (simp; done))
        try simp only [Act.put, List.setIfInBounds_toArray, List.set_cons_zero, List.set_cons_succ]
        refine wpAnyH_take (i := 3) (oi := { dst := some _, op := _, type := _, pos := _, after := _, guard := _ }) (v := (.bool true)) rfl (by kernel_rfl) (by kernel_rfl) (by kernel_rfl) (fun _ _ _ h => h) ?_ (by assumption) ?_
        focus (refine Or.inl ⟨by rfl, ?_⟩; intro wq hSw; go_simp; try first | with_reducible rfl | (simp; done))
        try simp only [Act.put, List.setIfInBounds_toArray, List.set_cons_zero, List.set_cons_succ]
        refine wpAnyH_take (i := 4) (oi := { dst := some _, op := _, type := _, pos := _, after := _, guard := _ }) (v := ?_) rfl (by kernel_rfl) (by kernel_rfl) (by kernel_rfl) (fun _ _ _ h => h) ?_ (by assumption) ?_
        rotate_left 1
        focus (refine Or.inl ⟨by rfl, ?_⟩; intro wq hSw; go_simp; try first | with_reducible rfl | (simp; done))
        try simp only [Act.put, List.setIfInBounds_toArray, List.set_cons_zero, List.set_cons_succ]
        refine wpAnyH_take (i := 5) (oi := { dst := some _, op := _, type := _, pos := _, after := _, guard := _ }) (v := (.int .i64 nw)) rfl (by kernel_rfl) (by kernel_rfl) (by kernel_rfl) (fun _ _ _ h => h) ?_ (by assumption) ?_
        focus (refine Or.inl ⟨by rfl, ?_⟩; intro wq hSw; obtain ⟨hSb, se0, se1, se2, se3, se4, se5, se6, se7, se8, sk0, sk1, sk2, sk3, sk4, sk5, sk6, sk7, sk8, sd0, sd1, sd2, sd3, sd4, sd5, sd6, sd7, sd8⟩ := hSw; go_simp; try first | with_reducible rfl | (simp; done))
        try simp only [Act.put, List.setIfInBounds_toArray, List.set_cons_zero, List.set_cons_succ]
        refine wpAnyH_take (i := 6) (oi := { dst := some _, op := _, type := _, pos := _, after := _, guard := _ }) (v := ?_) rfl (by kernel_rfl) (by kernel_rfl) (by kernel_rfl) (fun _ _ _ h => h) ?_ (by assumption) ?_
        rotate_left 1
        focus (refine Or.inl ⟨by rfl, ?_⟩; intro wq hSw; go_simp; try first | with_reducible rfl | (simp; done))
        try simp only [Act.put, List.setIfInBounds_toArray, List.set_cons_zero, List.set_cons_succ]
        refine wpAnyH_take (i := 7) (oi := { dst := some _, op := _, type := _, pos := _, after := _, guard := _ }) (v := ?_) rfl (by kernel_rfl) (by kernel_rfl) (by kernel_rfl) (fun _ _ _ h => h) ?_ (by assumption) ?_
        rotate_left 1
        focus (refine Or.inl ⟨by rfl, ?_⟩; intro wq hSw; go_simp; try first | with_reducible rfl | (simp; done))
        try simp only [Act.put, List.setIfInBounds_toArray, List.set_cons_zero, List.set_cons_succ]
        refine wpAnyH_take (i := 8) (oi := { dst := some _, op := _, type := _, pos := _, after := _, guard := _ }) (v := (.int .i64 nw)) rfl (by kernel_rfl) (by kernel_rfl) (by kernel_rfl) (fun _ _ _ h => h) ?_ (by assumption) ?_
        focus (refine Or.inl ⟨by rfl, ?_⟩; intro wq hSw; go_simp; try first | with_reducible rfl | (simp [hwi]; done))
        try simp only [Act.put, List.setIfInBounds_toArray, List.set_cons_zero, List.set_cons_succ]
        refine wpAnyH_take (i := 9) (oi := { dst := some _, op := _, type := _, pos := _, after := _, guard := _ }) (v := (.bool true)) rfl (by kernel_rfl) (by kernel_rfl) (by kernel_rfl) (fun _ _ _ h => h) ?_ (by assumption) ?_
        focus (refine Or.inl ⟨by rfl, ?_⟩; intro wq hSw; go_simp; try first | with_reducible rfl | (simp; done))
        try simp only [Act.put, List.setIfInBounds_toArray, List.set_cons_zero, List.set_cons_succ]
        refine wpAnyH_take (i := 10) (oi := { dst := some _, op := _, type := _, pos := _, after := _, guard := _ }) (v := (.bool true)) rfl (by kernel_rfl) (by kernel_rfl) (by kernel_rfl) (fun _ _ _ h => h) ?_ (by assumption) ?_
        focus (refine Or.inl ⟨by rfl, ?_⟩; intro wq hSw; go_simp; try first | with_reducible rfl | (simp; done))
        try simp only [Act.put, List.setIfInBounds_toArray, List.set_cons_zero, List.set_cons_succ]
        refine wpAnyH_take (i := 11) (oi := { dst := some _, op := _, type := _, pos := _, after := _, guard := _ }) (v := (.bool true)) rfl (by kernel_rfl) (by kernel_rfl) (by kernel_rfl) (fun _ _ _ h => h) ?_ (by assumption) ?_
        focus (refine Or.inl ⟨by rfl, ?_⟩; intro wq hSw; go_simp; try first | with_reducible rfl | (simp; done))
        try simp only [Act.put, List.setIfInBounds_toArray, List.set_cons_zero, List.set_cons_succ]
        refine wpAnyH_take (i := 12) (oi := { dst := some _, op := _, type := _, pos := _, after := _, guard := _ }) (v := (.agg #[.int .i64 i, .int .i64 d, .int .i64 c, .string b, .int .i64 a, .int .i64 t, .int .i64 R, .int .i64 nw, .int .i64 1])) rfl (by kernel_rfl) (by kernel_rfl) (by kernel_rfl) (fun _ _ _ h => h) ?_ (by assumption) ?_
        focus (refine Or.inl ⟨by rfl, ?_⟩; intro wq hSw; obtain ⟨hSb, se0, se1, se2, se3, se4, se5, se6, se7, se8, sk0, sk1, sk2, sk3, sk4, sk5, sk6, sk7, sk8, sd0, sd1, sd2, sd3, sd4, sd5, sd6, sd7, sd8⟩ := hSw; go_simp; try first | with_reducible rfl | (simp; done))
        try simp only [Act.put, List.setIfInBounds_toArray, List.set_cons_zero, List.set_cons_succ]
        refine wpAnyH_take (i := 13) (oi := { dst := some _, op := _, type := _, pos := _, after := _, guard := _ }) (v := ?_) rfl (by kernel_rfl) (by kernel_rfl) (by kernel_rfl) (fun _ _ _ h => h) ?_ (by assumption) ?_
        rotate_left 1
        focus (refine Or.inl ⟨by rfl, ?_⟩; intro wq hSw; go_simp; try first | with_reducible rfl | (simp; done))
        try simp only [Act.put, List.setIfInBounds_toArray, List.set_cons_zero, List.set_cons_succ]
        refine wpAnyH_take (i := 14) (oi := { dst := some _, op := _, type := _, pos := _, after := _, guard := _ }) (v := ?_) rfl (by kernel_rfl) (by kernel_rfl) (by kernel_rfl) (fun _ _ _ h => h) ?_ (by assumption) ?_
        rotate_left 1
        focus (refine Or.inl ⟨by rfl, ?_⟩; intro wq hSw; go_simp; try first | with_reducible rfl | (simp; done))
        try simp only [Act.put, List.setIfInBounds_toArray, List.set_cons_zero, List.set_cons_succ]
        refine wpAnyH_take (i := 15) (oi := { dst := some _, op := _, type := _, pos := _, after := _, guard := _ }) (v := (.int .i64 nw)) rfl (by kernel_rfl) (by kernel_rfl) (by kernel_rfl) (fun _ _ _ h => h) ?_ (by assumption) ?_
        focus (refine Or.inl ⟨by rfl, ?_⟩; intro wq hSw; go_simp; try first | with_reducible rfl | (simp [hwi]; done))
        try simp only [Act.put, List.setIfInBounds_toArray, List.set_cons_zero, List.set_cons_succ]
        refine wpAnyH_ready (rs := [16]) (by kernel_rfl) (by simp) ?_
        refine AllReadyH.cons rfl (fun KK hKK => ?_) AllReadyH.nil
        go_simp
        refine (ready_any i d c b a t R nw 1 nw _ HM.out).mono ?_
        rintro e w6 ⟨rfl, hb⟩
        rw [HR1.out]
        replace HW0 := Lib.hid (bAfter HW0.out hb HW0.out.size)
        clear hb
        dsimp only
        refine hKK.out _ _ (HKS.out _ HW0.out) (fun hHeld => ?_)
        clear hKK
        try simp only [Act.put, List.setIfInBounds_toArray, List.set_cons_zero, List.set_cons_succ]
        refine wpAnyH_take (i := 17) (oi := { dst := some _, op := _, type := _, pos := _, after := _, guard := _ }) (v := (.bool true)) rfl (by kernel_rfl) (by kernel_rfl) (by kernel_rfl) (fun _ _ _ h => h) ?_ (by assumption) ?_
        focus (refine Or.inl ⟨by rfl, ?_⟩; intro wq hSw; go_simp; try first | with_reducible rfl | (simp; done))
        try simp only [Act.put, List.setIfInBounds_toArray, List.set_cons_zero, List.set_cons_succ]
        refine wpAnyH_take (i := 18) (oi := { dst := some _, op := _, type := _, pos := _, after := _, guard := _ }) (v := (.bool true)) rfl (by kernel_rfl) (by kernel_rfl) (by kernel_rfl) (fun _ _ _ h => h) ?_ (by assumption) ?_
        focus (refine Or.inl ⟨by rfl, ?_⟩; intro wq hSw; go_simp; try first | with_reducible rfl | (simp; done))
        try simp only [Act.put, List.setIfInBounds_toArray, List.set_cons_zero, List.set_cons_succ]
        refine wpAnyH_take (i := 19) (oi := { dst := some _, op := _, type := _, pos := _, after := _, guard := _ }) (v := (.bool true)) rfl (by kernel_rfl) (by kernel_rfl) (by kernel_rfl) (fun _ _ _ h => h) ?_ (by assumption) ?_
        focus (refine Or.inl ⟨by rfl, ?_⟩; intro wq hSw; go_simp; try first | with_reducible rfl | (simp; done))
        try simp only [Act.put, List.setIfInBounds_toArray, List.set_cons_zero, List.set_cons_succ]
        refine wpAnyH_take (i := 20) (oi := { dst := some _, op := _, type := _, pos := _, after := _, guard := _ }) (v := ?_) rfl (by kernel_rfl) (by kernel_rfl) (by kernel_rfl) (fun _ _ _ h => h) ?_ (by assumption) ?_
        rotate_left 1
        focus (refine Or.inl ⟨by rfl, ?_⟩; intro wq hSw; go_simp; try first | with_reducible rfl | (simp; done))
        try simp only [Act.put, List.setIfInBounds_toArray, List.set_cons_zero, List.set_cons_succ]
        refine wpAnyH_take (i := 21) (oi := { dst := some _, op := _, type := _, pos := _, after := _, guard := _ }) (v := (.int .i64 0)) rfl (by kernel_rfl) (by kernel_rfl) (by kernel_rfl) (fun _ _ _ h => h) ?_ (by assumption) ?_
        focus (refine Or.inl ⟨by rfl, ?_⟩; intro wq hSw; obtain ⟨hSb, se0, se1, se2, se3, se4, se5, se6, se7, se8, sk0, sk1, sk2, sk3, sk4, sk5, sk6, sk7, sk8, sd0, sd1, sd2, sd3, sd4, sd5, sd6, sd7, sd8⟩ := hSw; go_simp; try first | with_reducible rfl | (simp; done))
        try simp only [Act.put, List.setIfInBounds_toArray, List.set_cons_zero, List.set_cons_succ]
        refine wpAnyH_take (i := 22) (oi := { dst := some _, op := _, type := _, pos := _, after := _, guard := _ }) (v := (.bool true)) rfl (by kernel_rfl) (by kernel_rfl) (by kernel_rfl) (fun _ _ _ h => h) ?_ (by assumption) ?_
        focus (refine Or.inl ⟨by rfl, ?_⟩; intro wq hSw; go_simp; try first | with_reducible rfl | (simp; done))
        try simp only [Act.put, List.setIfInBounds_toArray, List.set_cons_zero, List.set_cons_succ]
        refine wpAnyH_take (i := 23) (oi := { dst := some _, op := _, type := _, pos := _, after := _, guard := _ }) (v := (.bool true)) rfl (by kernel_rfl) (by kernel_rfl) (by kernel_rfl) (fun _ _ _ h => h) ?_ (by assumption) ?_
        focus (refine Or.inl ⟨by rfl, ?_⟩; intro wq hSw; go_simp; try first | with_reducible rfl | (simp; done))
        try simp only [Act.put, List.setIfInBounds_toArray, List.set_cons_zero, List.set_cons_succ]
        refine wpAnyH_take (i := 24) (oi := { dst := some _, op := _, type := _, pos := _, after := _, guard := _ }) (v := (.bool true)) rfl (by kernel_rfl) (by kernel_rfl) (by kernel_rfl) (fun _ _ _ h => h) ?_ (by assumption) ?_
        focus (refine Or.inl ⟨by rfl, ?_⟩; intro wq hSw; go_simp; try first | with_reducible rfl | (simp; done))
        try simp only [Act.put, List.setIfInBounds_toArray, List.set_cons_zero, List.set_cons_succ]
        refine wpAnyH_take (i := 25) (oi := { dst := some _, op := _, type := _, pos := _, after := _, guard := _ }) (v := ?_) rfl (by kernel_rfl) (by kernel_rfl) (by kernel_rfl) (fun _ _ _ h => h) ?_ (by assumption) ?_
        rotate_left 1
        focus (refine Or.inl ⟨by rfl, ?_⟩; intro wq hSw; go_simp; try first | with_reducible rfl | (simp; done))
        try simp only [Act.put, List.setIfInBounds_toArray, List.set_cons_zero, List.set_cons_succ]
        refine wpAnyH_take (i := 26) (oi := { dst := some _, op := _, type := _, pos := _, after := _, guard := _ }) (v := (.int .i64 r)) rfl (by kernel_rfl) (by kernel_rfl) (by kernel_rfl) (fun _ _ _ h => h) ?_ (by assumption) ?_
        focus (refine Or.inl ⟨by rfl, ?_⟩; intro wq hSw; obtain ⟨hSb, se0, se1, se2, se3, se4, se5, se6, se7, se8, sk0, sk1, sk2, sk3, sk4, sk5, sk6, sk7, sk8, sd0, sd1, sd2, sd3, sd4, sd5, sd6, sd7, sd8⟩ := hSw; go_simp; try first | with_reducible rfl | (simp; done))
        try simp only [Act.put, List.setIfInBounds_toArray, List.set_cons_zero, List.set_cons_succ]
        refine wpAnyH_take (i := 27) (oi := { dst := some _, op := _, type := _, pos := _, after := _, guard := _ }) (v := (.bool false)) rfl (by kernel_rfl) (by kernel_rfl) (by kernel_rfl) (fun _ _ _ h => h) ?_ (by assumption) ?_
        focus (refine Or.inl ⟨by rfl, ?_⟩; intro wq hSw; go_simp; try first | with_reducible rfl | (simp [hdr]; done))
        try simp only [Act.put, List.setIfInBounds_toArray, List.set_cons_zero, List.set_cons_succ]
        refine wpAnyH_take (i := 28) (oi := { dst := some _, op := _, type := _, pos := _, after := _, guard := _ }) (v := (.bool false)) rfl (by kernel_rfl) (by kernel_rfl) (by kernel_rfl) (fun _ _ _ h => h) ?_ (by assumption) ?_
        focus (refine Or.inl ⟨by rfl, ?_⟩; intro wq hSw; go_simp; try first | with_reducible rfl | (simp; done))
        try simp only [Act.put, List.setIfInBounds_toArray, List.set_cons_zero, List.set_cons_succ]
        refine wpAnyH_take (i := 29) (oi := { dst := some _, op := _, type := _, pos := _, after := _, guard := _ }) (v := ?_) rfl (by kernel_rfl) (by kernel_rfl) (by kernel_rfl) (fun _ _ _ h => h) ?_ (by assumption) ?_
        rotate_left 1
        focus (refine Or.inl ⟨by rfl, ?_⟩; intro wq hSw; go_simp; try first | with_reducible rfl | (simp; done))
        try simp only [Act.put, List.setIfInBounds_toArray, List.set_cons_zero, List.set_cons_succ]
        refine wpAnyH_take (i := 30) (oi := { dst := some _, op := _, type := _, pos := _, after := _, guard := _ }) (v := (.int .i64 R)) rfl (by kernel_rfl) (by kernel_rfl) (by kernel_rfl) (fun _ _ _ h => h) ?_ (by assumption) ?_
        focus (refine Or.inl ⟨by rfl, ?_⟩; intro wq hSw; obtain ⟨hSb, se0, se1, se2, se3, se4, se5, se6, se7, se8, sk0, sk1, sk2, sk3, sk4, sk5, sk6, sk7, sk8, sd0, sd1, sd2, sd3, sd4, sd5, sd6, sd7, sd8⟩ := hSw; go_simp; try first | with_reducible rfl | (simp; done))
        try simp only [Act.put, List.setIfInBounds_toArray, List.set_cons_zero, List.set_cons_succ]
        refine wpAnyH_take (i := 31) (oi := { dst := some _, op := _, type := _, pos := _, after := _, guard := _ }) (v := ?_) rfl (by kernel_rfl) (by kernel_rfl) (by kernel_rfl) (fun _ _ _ h => h) ?_ (by assumption) ?_
        rotate_left 1
        focus (refine Or.inl ⟨by rfl, ?_⟩; intro wq hSw; go_simp; try first | with_reducible rfl | (simp; done))
        try simp only [Act.put, List.setIfInBounds_toArray, List.set_cons_zero, List.set_cons_succ]
        refine wpAnyH_take (i := 32) (oi := { dst := some _, op := _, type := _, pos := _, after := _, guard := _ }) (v := (.int .i64 r)) rfl (by kernel_rfl) (by kernel_rfl) (by kernel_rfl) (fun _ _ _ h => h) ?_ (by assumption) ?_
        focus (refine Or.inl ⟨by rfl, ?_⟩; intro wq hSw; obtain ⟨hSb, se0, se1, se2, se3, se4, se5, se6, se7, se8, sk0, sk1, sk2, sk3, sk4, sk5, sk6, sk7, sk8, sd0, sd1, sd2, sd3, sd4, sd5, sd6, sd7, sd8⟩ := hSw; go_simp; try first | with_reducible rfl | (simp; done))
        try simp only [Act.put, List.setIfInBounds_toArray, List.set_cons_zero, List.set_cons_succ]
        refine wpAnyH_take (i := 33) (oi := { dst := some _, op := _, type := _, pos := _, after := _, guard := _ }) (v := (.int .i64 R)) rfl (by kernel_rfl) (by kernel_rfl) (by kernel_rfl) (fun _ _ _ h => h) ?_ (by assumption) ?_
        focus (refine Or.inl ⟨by rfl, ?_⟩; intro wq hSw; go_simp; try first | with_reducible rfl | (simp [hru]; done))
        try simp only [Act.put, List.setIfInBounds_toArray, List.set_cons_zero, List.set_cons_succ]
        refine wpAnyH_take (i := 34) (oi := { dst := some _, op := _, type := _, pos := _, after := _, guard := _ }) (v := (.bool true)) rfl (by kernel_rfl) (by kernel_rfl) (by kernel_rfl) (fun _ _ _ h => h) ?_ (by assumption) ?_
        focus (refine Or.inl ⟨by rfl, ?_⟩; intro wq hSw; go_simp; try first | with_reducible rfl | (simp; done))
        try simp only [Act.put, List.setIfInBounds_toArray, List.set_cons_zero, List.set_cons_succ]
        refine wpAnyH_take (i := 35) (oi := { dst := some _, op := _, type := _, pos := _, after := _, guard := _ }) (v := (.bool true)) rfl (by kernel_rfl) (by kernel_rfl) (by kernel_rfl) (fun _ _ _ h => h) ?_ (by assumption) ?_
        focus (refine Or.inl ⟨by rfl, ?_⟩; intro wq hSw; go_simp; try first | with_reducible rfl | (simp; done))
        try simp only [Act.put, List.setIfInBounds_toArray, List.set_cons_zero, List.set_cons_succ]
        refine wpAnyH_take (i := 36) (oi := { dst := some _, op := _, type := _, pos := _, after := _, guard := _ }) (v := (.bool true)) rfl (by kernel_rfl) (by kernel_rfl) (by kernel_rfl) (fun _ _ _ h => h) ?_ (by assumption) ?_
        focus (refine Or.inl ⟨by rfl, ?_⟩; intro wq hSw; go_simp; try first | with_reducible rfl | (simp; done))
        try simp only [Act.put, List.setIfInBounds_toArray, List.set_cons_zero, List.set_cons_succ]
        refine wpAnyH_take (i := 37) (oi := { dst := some _, op := _, type := _, pos := _, after := _, guard := _ }) (v := (.bool true)) rfl (by kernel_rfl) (by kernel_rfl) (by kernel_rfl) (fun _ _ _ h => h) ?_ (by assumption) ?_
        focus (refine Or.inl ⟨by rfl, ?_⟩; intro wq hSw; go_simp; try first | with_reducible rfl | (simp; done))
        try simp only [Act.put, List.setIfInBounds_toArray, List.set_cons_zero, List.set_cons_succ]
        refine wpAnyH_take (i := 38) (oi := { dst := some _, op := _, type := _, pos := _, after := _, guard := _ }) (v := (.agg #[.int .i64 i, .int .i64 d, .int .i64 c, .string b, .int .i64 a, .int .i64 t, .int .i64 R, .int .i64 nw, .int .i64 0])) rfl (by kernel_rfl) (by kernel_rfl) (by kernel_rfl) (fun _ _ _ h => h) ?_ (by assumption) ?_
        focus (refine Or.inl ⟨by rfl, ?_⟩; intro wq hSw; obtain ⟨hSb, se0, se1, se2, se3, se4, se5, se6, se7, se8, sk0, sk1, sk2, sk3, sk4, sk5, sk6, sk7, sk8, sd0, sd1, sd2, sd3, sd4, sd5, sd6, sd7, sd8⟩ := hSw; go_simp; try first | with_reducible rfl | (simp; done))
        try simp only [Act.put, List.setIfInBounds_toArray, List.set_cons_zero, List.set_cons_succ]
        refine wpAnyH_take (i := 40) (oi := { dst := some _, op := _, type := _, pos := _, after := _, guard := _ }) (v := (.agg #[.int .i64 i, .int .i64 d, .int .i64 c, .string b, .int .i64 a, .int .i64 t, .int .i64 R, .int .i64 nw, .int .i64 0])) rfl (by kernel_rfl) (by kernel_rfl) (by kernel_rfl) (fun _ _ _ h => h) ?_ (by assumption) ?_
        focus (refine Or.inl ⟨by rfl, ?_⟩; intro wq hSw; obtain ⟨hSb, se0, se1, se2, se3, se4, se5, se6, se7, se8, sk0, sk1, sk2, sk3, sk4, sk5, sk6, sk7, sk8, sd0, sd1, sd2, sd3, sd4, sd5, sd6, sd7, sd8⟩ := hSw; go_simp; try first | with_reducible rfl | (simp; done))
        try simp only [Act.put, List.setIfInBounds_toArray, List.set_cons_zero, List.set_cons_succ]
        refine wpAnyH_ready (rs := [39]) (by kernel_rfl) (by simp) ?_
        refine AllReadyH.cons rfl (fun KK hKK => ?_) AllReadyH.nil
        go_simp
        refine (back_any i d c b a t R nw 0 _).mono ?_
        rintro e w7 ⟨rfl, hb⟩
        rw [show bk 0 = 0 from rfl]
        replace HW0 := Lib.hid (bAfter HW0.out hb HW0.out.size)
        clear hb
        dsimp only
        refine hKK.out _ _ (HKS.out _ HW0.out) (fun hHeld => ?_)
        clear hKK
        try simp only [Act.put, List.setIfInBounds_toArray, List.set_cons_zero, List.set_cons_succ]
        refine wpAnyH_take (i := 41) (oi := { dst := some _, op := _, type := _, pos := _, after := _, guard := _ }) (v := (.bool true)) rfl (by kernel_rfl) (by kernel_rfl) (by kernel_rfl) (fun _ _ _ h => h) ?_ (by assumption) ?_
        focus (refine Or.inl ⟨by rfl, ?_⟩; intro wq hSw; go_simp; try first | with_reducible rfl | (simp; done))
        try simp only [Act.put, List.setIfInBounds_toArray, List.set_cons_zero, List.set_cons_succ]
        refine wpAnyH_take (i := 42) (oi := { dst := some _, op := _, type := _, pos := _, after := _, guard := _ }) (v := (.bool true)) rfl (by kernel_rfl) (by kernel_rfl) (by kernel_rfl) (fun _ _ _ h => h) ?_ (by assumption) ?_
        focus (refine Or.inl ⟨by rfl, ?_⟩; intro wq hSw; go_simp; try first | with_reducible rfl | (simp; done))
        try simp only [Act.put, List.setIfInBounds_toArray, List.set_cons_zero, List.set_cons_succ]
        refine wpAnyH_take (i := 43) (oi := { dst := some _, op := _, type := _, pos := _, after := _, guard := _ }) (v := (.bool true)) rfl (by kernel_rfl) (by kernel_rfl) (by kernel_rfl) (fun _ _ _ h => h) ?_ (by assumption) ?_
        focus (refine Or.inl ⟨by rfl, ?_⟩; intro wq hSw; go_simp; try first | with_reducible rfl | (simp; done))
        try simp only [Act.put, List.setIfInBounds_toArray, List.set_cons_zero, List.set_cons_succ]
        refine wpAnyH_take (i := 44) (oi := { dst := some _, op := _, type := _, pos := _, after := _, guard := _ }) (v := (.agg #[.int .i64 i, .int .i64 d, .int .i64 c, .string b, .int .i64 a, .int .i64 t, .int .i64 R, .int .i64 nw, .int .i64 0])) rfl (by kernel_rfl) (by kernel_rfl) (by kernel_rfl) (fun _ _ _ h => h) ?_ (by assumption) ?_
        focus (refine Or.inl ⟨by rfl, ?_⟩; intro wq hSw; obtain ⟨hSb, se0, se1, se2, se3, se4, se5, se6, se7, se8, sk0, sk1, sk2, sk3, sk4, sk5, sk6, sk7, sk8, sd0, sd1, sd2, sd3, sd4, sd5, sd6, sd7, sd8⟩ := hSw; go_simp; try first | with_reducible rfl | (simp; done))
        try simp only [Act.put, List.setIfInBounds_toArray, List.set_cons_zero, List.set_cons_succ]
        refine wpAnyH_take (i := 45) (oi := { dst := some _, op := _, type := _, pos := _, after := _, guard := _ }) (v := ?_) rfl (by kernel_rfl) (by kernel_rfl) (by kernel_rfl) (fun _ _ _ h => h) ?_ (by assumption) ?_
        rotate_left 1
        focus (refine Or.inl ⟨by rfl, ?_⟩; intro wq hSw; go_simp; try first | with_reducible rfl | (simp; done))
        try simp only [Act.put, List.setIfInBounds_toArray, List.set_cons_zero, List.set_cons_succ]
        refine wpAnyH_take (i := 46) (oi := { dst := some _, op := _, type := _, pos := _, after := _, guard := _ }) (v := ?_) rfl (by kernel_rfl) (by kernel_rfl) (by kernel_rfl) (fun _ _ _ h => h) ?_ (by assumption) ?_
        rotate_left 1
        focus (refine Or.inl ⟨by rfl, ?_⟩; intro wq hSw; go_simp; try first | with_reducible rfl | (simp; done))
        try simp only [Act.put, List.setIfInBounds_toArray, List.set_cons_zero, List.set_cons_succ]
        refine wpAnyH_take (i := 47) (oi := { dst := some _, op := _, type := _, pos := _, after := _, guard := _ }) (v := (.int .i64 nw)) rfl (by kernel_rfl) (by kernel_rfl) (by kernel_rfl) (fun _ _ _ h => h) ?_ (by assumption) ?_
        focus (refine Or.inl ⟨by rfl, ?_⟩; intro wq hSw; go_simp; try first | with_reducible rfl | (simp [hwi]; done))
        try simp only [Act.put, List.setIfInBounds_toArray, List.set_cons_zero, List.set_cons_succ]
        refine wpAnyH_ready (rs := [48]) (by kernel_rfl) (by simp) ?_
        refine AllReadyH.cons rfl (fun KK hKK => ?_) AllReadyH.nil
        go_simp
        refine (ready_any i d c b a t R nw 0 nw _ HM.out).mono ?_
        rintro e w8 ⟨rfl, hb⟩
        rw [hrd]
        replace HW0 := Lib.hid (bAfter HW0.out hb HW0.out.size)
        clear hb
        dsimp only
        refine hKK.out _ _ (HKS.out _ HW0.out) (fun hHeld => ?_)
        clear hKK
        try simp only [Act.put, List.setIfInBounds_toArray, List.set_cons_zero, List.set_cons_succ]
        refine wpAnyH_take (i := 49) (oi := { dst := some _, op := _, type := _, pos := _, after := _, guard := _ }) (v := (.bool true)) rfl (by kernel_rfl) (by kernel_rfl) (by kernel_rfl) (fun _ _ _ h => h) ?_ (by assumption) ?_
        focus (refine Or.inl ⟨by rfl, ?_⟩; intro wq hSw; go_simp; try first | with_reducible rfl | (simp; done))
        try simp only [Act.put, List.setIfInBounds_toArray, List.set_cons_zero, List.set_cons_succ]
        refine wpAnyH_take (i := 50) (oi := { dst := some _, op := _, type := _, pos := _, after := _, guard := _ }) (v := undef) rfl (by kernel_rfl) (by kernel_rfl) (by kernel_rfl) (fun _ _ _ h => h) ?_ (by assumption) ?_
        focus (exact Or.inr ⟨by rfl, rfl⟩)
        try simp only [Act.put, List.setIfInBounds_toArray, List.set_cons_zero, List.set_cons_succ]
        refine wpAnyH_take (i := 51) (oi := { dst := some _, op := _, type := _, pos := _, after := _, guard := _ }) (v := undef) rfl (by kernel_rfl) (by kernel_rfl) (by kernel_rfl) (fun _ _ _ h => h) ?_ (by assumption) ?_
        focus (exact Or.inr ⟨by rfl, rfl⟩)
        try simp only [Act.put, List.setIfInBounds_toArray, List.set_cons_zero, List.set_cons_succ]
        refine wpAnyH_take (i := 52) (oi := { dst := some _, op := _, type := _, pos := _, after := _, guard := _ }) (v := undef) rfl (by kernel_rfl) (by kernel_rfl) (by kernel_rfl) (fun _ _ _ h => h) ?_ (by assumption) ?_
        focus (exact Or.inr ⟨by rfl, rfl⟩)
        try simp only [Act.put, List.setIfInBounds_toArray, List.set_cons_zero, List.set_cons_succ]
        refine wpAnyH_take (i := 53) (oi := { dst := some _, op := _, type := _, pos := _, after := _, guard := _ }) (v := undef) rfl (by kernel_rfl) (by kernel_rfl) (by kernel_rfl) (fun _ _ _ h => h) ?_ (by assumption) ?_
        focus (exact Or.inr ⟨by rfl, rfl⟩)
        try simp only [Act.put, List.setIfInBounds_toArray, List.set_cons_zero, List.set_cons_succ]
        refine wpAnyH_take (i := 54) (oi := { dst := some _, op := _, type := _, pos := _, after := _, guard := _ }) (v := undef) rfl (by kernel_rfl) (by kernel_rfl) (by kernel_rfl) (fun _ _ _ h => h) ?_ (by assumption) ?_
        focus (exact Or.inr ⟨by rfl, rfl⟩)
        try simp only [Act.put, List.setIfInBounds_toArray, List.set_cons_zero, List.set_cons_succ]
        refine wpAnyH_take (i := 55) (oi := { dst := some _, op := _, type := _, pos := _, after := _, guard := _ }) (v := (.bool true)) rfl (by kernel_rfl) (by kernel_rfl) (by kernel_rfl) (fun _ _ _ h => h) ?_ (by assumption) ?_
        focus (refine Or.inl ⟨by rfl, ?_⟩; intro wq hSw; go_simp; try first | with_reducible rfl | (simp; done))
        try simp only [Act.put, List.setIfInBounds_toArray, List.set_cons_zero, List.set_cons_succ]
        refine wpAnyH_take (i := 56) (oi := { dst := some _, op := _, type := _, pos := _, after := _, guard := _ }) (v := (.bool true)) rfl (by kernel_rfl) (by kernel_rfl) (by kernel_rfl) (fun _ _ _ h => h) ?_ (by assumption) ?_
        focus (refine Or.inl ⟨by rfl, ?_⟩; intro wq hSw; go_simp; try first | with_reducible rfl | (simp; done))
        try simp only [Act.put, List.setIfInBounds_toArray, List.set_cons_zero, List.set_cons_succ]
        refine wpAnyH_take (i := 57) (oi := { dst := some _, op := _, type := _, pos := _, after := _, guard := _ }) (v := (.bool true)) rfl (by kernel_rfl) (by kernel_rfl) (by kernel_rfl) (fun _ _ _ h => h) ?_ (by assumption) ?_
        focus (refine Or.inl ⟨by rfl, ?_⟩; intro wq hSw; go_simp; try first | with_reducible rfl | (simp; done))
        try simp only [Act.put, List.setIfInBounds_toArray, List.set_cons_zero, List.set_cons_succ]
        refine wpAnyH_done (by kernel_rfl) ?_ _
        go_wp2_with fail
        go_ret
        exact ⟨rfl, bAfter HL.out HW0.out HL.out.size⟩
end Go.Proofs.Ytjcopkjapnieoaa.Evt
