/-
  The walk of the law FnOnce.
-/
import Derived.Test.YtkoliacbajpijaaDoorFonA
namespace Go.Proofs.YtkoliacbajpijaaDoor.Whl
open Go.RowKit Go.Maps Go.Proofs.YtkoliacbajpijaaDoor.Kit Go.Proofs.YtkoliacbajpijaaDoor.Draw
set_option linter.unusedVariables false
set_option linter.unusedSimpArgs false

set_option maxRecDepth 100000 in
set_option maxHeartbeats 4000000 in
theorem fnOnce_walk (w : World) (a0 : Option Addr) (len0 cap0 : Nat) (zs : List Int) (hrow : IsRow .u8 w a0 len0 cap0 zs) (hT : TabD w) :
    Calls Tryd.prog 6 #[.slice a0 len0 cap0] w fun e w' => e = .returned (.bool true) ∧ Below w.heap.size w w' := by
  obtain ⟨cf, hcf⟩ : ∃ cf : Nat → Int, CodeIs w.heap.size w a0 len0 cap0 cf := ⟨_, hrow.codeIs⟩
  have hle := hcf.le
  have HC := Lib.hid hcf
  have HBD := Lib.hid (fun k => atF_bd hcf k)
  have HT := Lib.hid hT
  have HTL := Lib.hid hT.lt
  have HLE := Lib.hid hle
  clear hrow hcf hT hle
  go_enter Tryd.func6, Tryd.ntmps6
  by_cases hbig : (1048576 : Int) < (len0 : Int)
  · go_wp2_with fail
    refine (big_yes _ a0 len0 cap0 HLE.out hbig).mono ?_
    rintro e w' ⟨rfl, rfl⟩
    go_wp2_with fail
    go_ret
    exact ⟨rfl, Below.refl _ _⟩
  go_wp2_with fail
  refine (big_no _ a0 len0 cap0 HLE.out (by omega)).mono ?_
  rintro e w' ⟨rfl, rfl⟩
  clear hbig
  have HF0 := Lib.hid (show Fu w (w.alloc (.cells #[.int .i64 0, .slice none 0 0] 26)) w.heap.size 0 none 0 0 [] from
    ⟨bOne _ _, Bx.new w _ _ _, Bf.new w _ _, World.ownsRow_nil _ _ _ _, Nat.le_refl _, fun j hj => by simp [Value.ownBlock] at hj⟩)
  go_wp2_with fail
  refine (at_int _ w.heap.size a0 len0 cap0 cf (HC.out.below HF0.out.low) 0 (by omega) (by omega) _ rfl).mono ?_
  rintro e w' ⟨⟨rfl, hz0, hz1⟩, rfl⟩
  obtain ⟨z, hz⟩ : ∃ z, z = atF cf len0 (0 : Int).toNat := ⟨_, rfl⟩
  rw [← hz] at hz0 hz1 ⊢
  clear hz
  have hmz : z.tmod 20 = z % 20 := Int.tmod_eq_emod_of_nonneg hz0
  have hwm : IntKind.i64.wrap (z.tmod 20) = z % 20 := by rw [hmz]; exact IntWalk.i64_in _ (by omega)
  obtain ⟨N, hN⟩ : ∃ N, N = 1 + z % 20 := ⟨_, rfl⟩
  have hwz : IntKind.i64.wrap (1 + z % 20) = N := by rw [hN]; exact IntWalk.i64_in _ (by omega)
  have hN0 : 1 ≤ N := by omega
  have hN1 : N ≤ 20 := by omega
  clear hN
  have HO0 := Lib.hid (show On w ((w.alloc (.cells #[.int .i64 0, .slice none 0 0] 26)).alloc (.cells #[] 3)) w.heap.size 0 none 0 0 [] (.slice (some ⟨w.heap.size + 1, 0, none⟩) 0 0) [] from by
    have h1 := inil (w.alloc (.cells #[.int .i64 0, .slice none 0 0] 26))
    have h2 := HF0.out.below (bOne (w.alloc (.cells #[.int .i64 0, .slice none 0 0] 26)) (.cells #[] 3))
    simp at h1
    exact ⟨h2, h1.base (by omega), by simp [Value.ownBlock]⟩)
  go_wp2_with fail
  clear hz0 hz1 hmz hwm hwz HF0
  obtain ⟨W, hW⟩ : ∃ W, W = (w.alloc (.cells #[.int .i64 0, .slice none 0 0] 26)).alloc (.cells #[] 3) := ⟨_, rfl⟩
  rw [← hW] at HO0 ⊢
  clear hW
  obtain ⟨gd, hgd⟩ : ∃ b, b = w.heap.size + 1 := ⟨_, rfl⟩
  rw [← hgd] at HO0 ⊢
  clear hgd
  obtain ⟨b3, hb3⟩ : ∃ b, b = w.heap.size := ⟨_, rfl⟩
  rw [← hb3] at HO0 ⊢
  clear hb3
  go_loopw [6] (fun i wr => ∃ (j : Nat) (a : Option Addr) (n cap : Nat) (l : List T), (j : Int) ≤ N ∧ i = .int .i64 ((j : Int) + 1) ∧ Hid (n = l.length) ∧ Hid (FuL 300 l j) ∧ Hid (On w wr b3 0 a n cap l (.slice (some ⟨gd, 0, none⟩) 0 0) [])) (fun i _ => (N + 1 - intOf i).toNat)
  case atStart => exact ⟨0, none, 0, 0, [], by omega, by go_num, Lib.hid rfl, Lib.hid FuL.nil, HO0⟩
  case round =>
    obtain ⟨j, a, n, cap, l, hj, rfl, HN, HJ, HF⟩ := hrel
    obtain rfl : n = l.length := HN.out
    have hll := HJ.out.len
    obtain ⟨i, hi⟩ : ∃ i : Int, i = (j : Int) + 1 := ⟨_, rfl⟩
    rw [← hi]
    by_cases hlt : (j : Int) < N
    · have hle60 : i ≤ N := by omega
      have hge1 : 1 ≤ i := by omega
      have hd : decide (i ≤ N) = true := by simp; omega
      have HGO := Lib.hid (fun (X : Int) (h0 : 1 ≤ X) (h1 : X ≤ 300) => show setB 0 l (X, i) = true ∧ FuL 300 (setL l (X, i)) (j + 1) by rw [hi]; exact HJ.out.step (by omega) (by omega) h0 h1)
      have hll2 : l.length ≤ 60 := by omega
      have HI := Lib.hid hi
      obtain ⟨i2, hi2⟩ : ∃ i2, i2 = i + 1 := ⟨_, rfl⟩
      have hwi : IntKind.i64.wrap (i + 1) = i2 := by rw [hi2]; exact IntWalk.i64_in _ (by omega)
      have hi20 : 0 ≤ i2 := by omega
      have hi21 : i2 ≤ 1000 := by omega
      obtain ⟨X, hX⟩ : ∃ X, atF cf len0 i.toNat = X := ⟨_, rfl⟩
      have HX := Lib.hid hX
      obtain ⟨Y, hY⟩ : ∃ Y, atF cf len0 i2.toNat = Y := ⟨_, rfl⟩
      have HY := Lib.hid hY
      have hx := HBD.out i.toNat
      have hy := HBD.out i2.toNat
      rw [hX] at hx
      rw [hY] at hy
      obtain ⟨Q, hQ⟩ : ∃ Q, X * Y = Q := ⟨_, rfl⟩
      have hq0 : 0 ≤ Q := by rw [← hQ]; exact Int.mul_nonneg hx.1 hy.1
      have hq1 : Q ≤ 255 * 255 := by rw [← hQ]; exact Int.mul_le_mul (by omega) (by omega) hy.1 (by omega)
      have hwq : IntKind.i64.wrap Q = Q := IntWalk.i64_in _ (by omega)
      obtain ⟨R, hR⟩ : ∃ R, R = Q % 300 := ⟨_, rfl⟩
      have hmr : Q.tmod 300 = R := by rw [hR]; exact Int.tmod_eq_emod_of_nonneg hq0
      have hwr : IntKind.i64.wrap R = R := IntWalk.i64_in _ (by omega)
      obtain ⟨Z, hZ⟩ : ∃ Z, Z = 1 + R := ⟨_, rfl⟩
      have hwz : IntKind.i64.wrap (1 + R) = Z := by rw [hZ]; exact IntWalk.i64_in _ (by omega)
      have hz0' : 1 ≤ Z := by omega
      have hz1' : Z ≤ 300 := by omega
      clear hi hll hlt hj hX hY hi2 hx hy hq0 hq1 hR hZ
      go_upto_region 9 with fail
      have HKS := Lib.hid (fun w' (h : Below wr.heap.size wr w') => And.intro (HF.out.fu.x.below h).c0 (And.intro (HF.out.fu.x.below h).c1 h))
      have HD := Lib.hid (show Below wr.heap.size wr wr.drew from below_drew' (Below.refl _ _))
      go_cut [7, 8] (fun s7 s8 wx => ∃ k a' cap', s7 = .pointer (some ⟨k, 0, none⟩) ∧ s8 = .bool true ∧ Hid (Below wr.heap.size wr wx) ∧ Hid (Wc wx k wr.heap.size wx.heap.size 0 a' (setL l (Z, i)).length cap' (setL l (Z, i))))
      case first =>
        go_region_held3 (fun w' => w'.cell? ⟨b3, 0, none⟩ = some (.int .i64 0) ∧ w'.cell? ⟨b3, 1, none⟩ = some (.slice a l.length cap) ∧ Below wr.heap.size wr w')
          (first
            | exact HKS.out _ HD.out
            | exact HKS.out _ HLC.out
            | exact HKS.out _ HLB.out
            | exact HKS.out _ HLA.out
            | exact HKS.out _ (low_alloc HLC.out _)
            | exact HKS.out _ (low_alloc HLB.out _)
            | exact HKS.out _ (low_alloc HLA.out _)
            | exact HKS.out _ (low_alloc HD.out _)
            | exact HKS.out _ (low_put HLC.out HLB.out.size _ _)
            | exact HKS.out _ (low_put HLC.out HLA.out.size _ _)
            | exact HKS.out _ (low_put HLC.out HD.out.size _ _)
            | exact HKS.out _ (low_put HLC.out (Nat.le_refl _) _ _))
          (first
            | (go_at_call 28; (with_reducible refine (at_int _ w.heap.size a0 len0 cap0 cf (HC.out.below (low_after HF.out.fu.low ((‹_ ∧ _ ∧ Below wr.heap.size wr _›).2.2))) i (by omega) (by omega) X HX.out).mono ?_); rintro e wA ⟨⟨rfl, hz0, hz1⟩, rfl⟩; have HLA := Lib.hid ((‹_ ∧ _ ∧ Below wr.heap.size wr _›).2.2))
            | (go_at_call 28; (with_reducible refine (at_int _ w.heap.size a0 len0 cap0 cf (HC.out.below (low_after HF.out.fu.low ((‹_ ∧ _ ∧ Below wr.heap.size wr _›).2.2))) i2 hi20 hi21 Y HY.out).mono ?_); rintro e wB ⟨⟨rfl, hz0, hz1⟩, rfl⟩; have HLB := Lib.hid ((‹_ ∧ _ ∧ Below wr.heap.size wr _›).2.2))
            | (go_at_call 13; (with_reducible refine (setTimer_any _ a l.length cap 0 l Z i ((HF.out.fu.below ((‹_ ∧ _ ∧ Below wr.heap.size wr _›).2.2)).own.isN) (by omega) (HT.out.below (low_after HF.out.fu.low ((‹_ ∧ _ ∧ Below wr.heap.size wr _›).2.2)) HTL.out)).mono ?_); rintro e w3 ⟨⟨a3, cap3, rfl, ho3⟩, hbC⟩; have HSB := (HGO.out Z hz0' hz1').1; rw [setR_yes HSB] at ho3 ⊢; rw [HSB]; have HLC := Lib.hid (low_after ((‹_ ∧ _ ∧ Below wr.heap.size wr _›).2.2) hbC); (first | (have hbk := Bz.step1 HBK.out hbC; have HBK := Lib.hid hbk.1; have HKL := Lib.hid hbk.2; obtain ⟨z0, z1, g0, g1, zl⟩ := hbk.1.cells; clear hbk) | (have hbk := Bz.step2 hbC; have HBK := Lib.hid hbk.1; have HKL := Lib.hid hbk.2; obtain ⟨z0, z1, g0, g1, zl⟩ := hbk.1.cells; clear hbk) | (have hbk := Bz.step3 hbC; have HBK := Lib.hid hbk.1; have HKL := Lib.hid hbk.2; obtain ⟨z0, z1, g0, g1, zl⟩ := hbk.1.cells; clear hbk) | skip)))
        all_goals
          go_wp2_with fail
          go_meet
          first
            | exact ⟨_, _, _, rfl, rfl, Lib.hid (low_alloc HLC.out _), Lib.hid (Wc.new ho3 (HLB.out.size) hbC.size _)⟩
            | exact ⟨_, _, _, rfl, rfl, Lib.hid (low_put HLC.out (by first | exact HLB.out.size | exact HLA.out.size | exact HD.out.size | exact Nat.le_refl _) _ _), Lib.hid (Wc.put HBK.out ho3 HKL.out (by first | exact HLB.out.size | exact HLA.out.size | exact HD.out.size | exact Nat.le_refl _) _)⟩
      case rest =>
        obtain ⟨k5, a5, cap5, rfl, rfl, HB5, HV5⟩ := hcut
        have HF5 := Lib.hid (HF.out.below HB5.out)
        have HJ5 := Lib.hid (HGO.out Z hz0' hz1').2
        have HF6 := Lib.hid (HF5.out.put HV5.out.own HF.out.fu.x.lt 0)
        obtain ⟨c0, c1, f0, f1, l3⟩ := HF5.out.fu.cells
        obtain ⟨d0, d1, lt1⟩ := HV5.out.cells
        clear hd hwi hwq hmr hwr hwz hQ
        have hwi : IntKind.i64.wrap (i + 1) = i + 1 := IntWalk.i64_in _ (by omega)
        have hwi2 : wrap64 (i + 1) = i + 1 := by unfold wrap64; omega
        go_wp2_with fail
        have hi := HI.out
        go_roundw
        case rel => exact ⟨j + 1, a5, _, cap5, _, by omega, by first | rw [hi]; go_num | go_num, Lib.hid rfl, HJ5, HF6⟩
        case measure => simp [intOf]; omega
    · have hiN : i = N + 1 := by omega
      have hd : decide (i ≤ N) = false := by simp; omega
      obtain ⟨L, hL⟩ : ∃ L, L = l := ⟨_, rfl⟩
      have HLL := Lib.hid (show FuL 300 L j by rw [hL]; exact HJ.out)
      have HI0 := Lib.hid (show OnI L 0 0 l [] by rw [hL]; exact OnI.start HJ.out)
      have HNJ := Lib.hid (show (j : Int) = N by omega)
      have hL20 : L.length ≤ 20 := by rw [hL]; omega
      clear hL hll hi hlt hj HJ HN
      go_wp2_with fail
      clear hd hiN
      go_loopw [9, 5] (fun s9 s5 wr => ∃ (q : Nat) (now : Int) (a : Option Addr) (n cap : Nat) (l : List T) (ad : Option Addr) (nd cd : Nat) (xs : List Int), q ≤ 400 ∧ s9 = .int .i64 (q : Int) ∧ s5 = .slice ad nd cd ∧ Hid (n = l.length) ∧ Hid (OnI L q now l xs) ∧ Hid (On w wr b3 now a n cap l (.slice ad nd cd) xs)) (fun s9 _ _ => (400 - intOf s9).toNat)
      case atStart => exact ⟨0, 0, a, l.length, cap, l, _, _, _, [], by omega, rfl, rfl, Lib.hid rfl, HI0, HF⟩
      case round =>
        clear HF HI0
        obtain ⟨q, now, a, n, cap, l, ad, nd, cd, xs, hq, rfl, rfl, HN, HQ, HF⟩ := hrel
        obtain rfl : n = l.length := HN.out
        obtain ⟨c0, c1, f0, f1, l3⟩ := HF.out.fu.cells
        have hls := HQ.out.lens
        have hl20 : l.length ≤ 20 := by omega
        have hx20 : xs.length ≤ 20 := by omega
        clear hls
        go_upto_region 14 with fail
        go_cut [58] (fun c wx => c = .bool (decide ((q : Int) < 400 ∧ 0 < l.length)) ∧ wx = wr)
        case first =>
          by_cases h1 : (q : Int) < 400
          · by_cases h2 : 0 < l.length
            · have hd2 : decide ((0 : Int) < (l.length : Int)) = true := decide_eq_true (by omega)
              have hd4 : decide (0 < l.length) = true := decide_eq_true h2
              have hd1 : decide ((q : Int) < 400) = true := decide_eq_true h1
              have HR := Lib.hid (decide_eq_true (show (q : Int) < 400 ∧ 0 < l.length from ⟨h1, h2⟩))
              clear h1 h2
              go_wp2_with fail
              go_meet
              exact ⟨by rw [HR.out], rfl⟩
            · have hd2 : decide ((0 : Int) < (l.length : Int)) = false := decide_eq_false (by omega)
              have hd4 : decide (0 < l.length) = false := decide_eq_false h2
              have hd1 : decide ((q : Int) < 400) = true := decide_eq_true h1
              have HR := Lib.hid (decide_eq_false (show ¬ ((q : Int) < 400 ∧ 0 < l.length) from fun h => h2 h.2))
              clear h1 h2
              go_wp2_with fail
              go_meet
              exact ⟨by rw [HR.out], rfl⟩
          · have hd1 : decide ((q : Int) < 400) = false := decide_eq_false h1
            have HR := Lib.hid (decide_eq_false (show ¬ ((q : Int) < 400 ∧ 0 < l.length) from fun h => h1 h.1))
            clear h1
            go_wp2_with fail
            go_meet
            exact ⟨by rw [HR.out], rfl⟩
        case rest =>
          obtain ⟨rfl, rfl⟩ := hcut
          by_cases hgo : (q : Int) < 400 ∧ 0 < l.length
          · have hgob : decide ((q : Int) < 400 ∧ 0 < l.length) = true := decide_eq_true hgo
            obtain ⟨hq4, hpos⟩ := hgo
            have hpos' := Lib.hid hpos
            rw [hgob]
            clear hgob hpos
            go_wp2_with fail
            refine (specNextTimer_any _ _ a l.length cap now l HF.out.fu.own.isN (Nat.le_refl _)).mono ?_
            rintro e V ⟨rfl, hbV⟩
            have HG := Lib.hid (HF.out.below hbV)
            have HOW := Lib.hid (HQ.out.ok)
            obtain ⟨qn, hqn⟩ : ∃ qn, qn = nextL l := ⟨_, rfl⟩
            rw [← hqn]
            have hn0 := HQ.out.n0
            have hn1 := HQ.out.n1
            obtain ⟨z, hz⟩ : ∃ z, atF cf len0 (q : Int).toNat = z := ⟨_, rfl⟩
            have HZ := Lib.hid hz
            have hzb := HBD.out (q : Int).toNat
            rw [hz] at hzb
            obtain ⟨z9, hz9⟩ : ∃ z9, z9 = z % 9 := ⟨_, rfl⟩
            obtain ⟨n1, hn1'⟩ : ∃ n1, n1 = now + 1 := ⟨_, rfl⟩
            obtain ⟨tg, htg⟩ : ∃ tg, tg = n1 + z9 := ⟨_, rfl⟩
            have hwn : IntKind.i64.wrap (now + 1) = n1 := by rw [hn1']; exact IntWalk.i64_in _ (by omega)
            have hmz : z.tmod 9 = z9 := by rw [hz9]; exact Int.tmod_eq_emod_of_nonneg hzb.1
            have hwz : IntKind.i64.wrap z9 = z9 := IntWalk.i64_in _ (by omega)
            have hwt : IntKind.i64.wrap (n1 + z9) = tg := by rw [htg]; exact IntWalk.i64_in _ (by omega)
            obtain ⟨⟨e1, e2, e3⟩, hst⟩ := HQ.out.step (z := z9) (tg := tg) HLL.out.ok.srt (by omega) (by omega) (by omega) (by omega)
            obtain ⟨S, hS⟩ : ∃ S, S = restL L tg := ⟨_, rfl⟩
            obtain ⟨I, hI⟩ : ∃ I, I = (dueL l tg).map Prod.snd := ⟨_, rfl⟩
            have HT1 := Lib.hid e1
            have HT2 := Lib.hid (e2.trans hS.symm)
            have HT3 := Lib.hid (e3.trans hI.symm)
            have HST := Lib.hid (show OnI L (q + 1) tg S (xs ++ I) by rw [hS, hI]; exact hst)
            have hIb : decide ((0 : Int) < (I.length : Int)) = decide (qn ≤ tg) := by rw [hI, hqn, List.length_map]; exact due_pos HOW.out hpos'.out
            have hls := HST.out.lens
            have hs20 : S.length ≤ 20 := by omega
            have hi20 : I.length ≤ 20 := by rw [List.length_append] at hls; omega
            have HIB := Lib.hid hIb
            have HCAP := Lib.hid HF.out.fu.own.nilcap
            clear hqn hz hzb hz9 hn1' htg e1 e2 e3 hst hS hI hIb hls hn0 hn1 c0 c1 f0 f1 l3 hpos' HQ HOW hbV HF
            go_upto_region 17 with fail
            have HKS := Lib.hid (fun w' (h : Below V.heap.size V w') => And.intro (HG.out.fu.x.below h).c0 (And.intro (HG.out.fu.x.below h).c1 h))
            have HD := Lib.hid (show Below V.heap.size V V.drew from below_drew' (Below.refl _ _))
            go_cut [11, 12] (fun s11 s12 wx => ∃ k a' cap' ai ci, s11 = .pointer (some ⟨k, 0, none⟩) ∧ s12 = .slice ai I.length ci ∧ Hid (Below V.heap.size V wx) ∧ Hid (Wi wx k V.heap.size wx.heap.size tg a' S.length cap' S (.slice ai I.length ci) I))
            case first =>
              go_region_held3 (fun w' => w'.cell? ⟨b3, 0, none⟩ = some (.int .i64 now) ∧ w'.cell? ⟨b3, 1, none⟩ = some (.slice a l.length cap) ∧ Below V.heap.size V w')
                (first
                  | exact HKS.out _ HD.out
                  | exact HKS.out _ HLC.out
                  | exact HKS.out _ HLB.out
                  | exact HKS.out _ HLA.out
                  | exact HKS.out _ (low_alloc HLC.out _)
                  | exact HKS.out _ (low_alloc HLB.out _)
                  | exact HKS.out _ (low_alloc HLA.out _)
                  | exact HKS.out _ (low_alloc HD.out _)
                  | exact HKS.out _ (low_put HLC.out HLB.out.size _ _)
                  | exact HKS.out _ (low_put HLC.out HLA.out.size _ _)
                  | exact HKS.out _ (low_put HLC.out HD.out.size _ _)
                  | exact HKS.out _ (low_put HLC.out (Nat.le_refl _) _ _))
                (first
                  | (go_at_call 28; (with_reducible refine (at_int _ w.heap.size a0 len0 cap0 cf (HC.out.below (low_after HG.out.fu.low ((‹_ ∧ _ ∧ Below V.heap.size V _›).2.2))) (q : Int) (by omega) (by omega) z HZ.out).mono ?_); rintro e wB ⟨⟨rfl, hz0, hz1⟩, rfl⟩; have HLB := Lib.hid ((‹_ ∧ _ ∧ Below V.heap.size V _›).2.2))
                  | (go_at_call 25; (with_reducible refine (turnWheel_any _ a l.length cap now l tg ((HG.out.fu.below ((‹_ ∧ _ ∧ Below V.heap.size V _›).2.2)).own.isN) (by omega) (HT.out.below (low_after HG.out.fu.low ((‹_ ∧ _ ∧ Below V.heap.size V _›).2.2)) HTL.out)).mono ?_); rintro e w3 ⟨⟨a3, cap3, vi3, rfl, ho3, hi3⟩, hbC⟩; obtain ⟨ai3, ci3, rfl⟩ := hi3.shape; rw [HT2.out] at ho3 ⊢; rw [HT3.out] at hi3 ⊢; rw [HT1.out]; have HLC := Lib.hid (low_after ((‹_ ∧ _ ∧ Below V.heap.size V _›).2.2) hbC); (first | (have hbk := Bz.step1 HBK.out hbC; have HBK := Lib.hid hbk.1; have HKL := Lib.hid hbk.2; obtain ⟨z0, z1, g0, g1, zl⟩ := hbk.1.cells; clear hbk) | (have hbk := Bz.step2 hbC; have HBK := Lib.hid hbk.1; have HKL := Lib.hid hbk.2; obtain ⟨z0, z1, g0, g1, zl⟩ := hbk.1.cells; clear hbk) | (have hbk := Bz.step3 hbC; have HBK := Lib.hid hbk.1; have HKL := Lib.hid hbk.2; obtain ⟨z0, z1, g0, g1, zl⟩ := hbk.1.cells; clear hbk) | skip)))
              all_goals
                go_wp2_with fail
                go_meet
                first
                  | exact ⟨_, _, _, _, _, rfl, rfl, Lib.hid (low_alloc HLC.out _), Lib.hid (Wi.new ho3 hi3 (HLB.out.size) hbC.size _)⟩
                  | exact ⟨_, _, _, _, _, rfl, rfl, Lib.hid (low_put HLC.out (by first | exact HLB.out.size | exact HLA.out.size | exact HD.out.size | exact Nat.le_refl _) _ _), Lib.hid (Wi.put HBK.out ho3 hi3 HKL.out (by first | exact HLB.out.size | exact HLA.out.size | exact HD.out.size | exact Nat.le_refl _) _)⟩
            case rest =>
              obtain ⟨k1, a1, cap1, ai1, ci1, rfl, rfl, HB1, HV1⟩ := hcut
              have HG1 := Lib.hid (HG.out.below HB1.out)
              go_upto_region 18 with fail
              have HKS := Lib.hid (fun w' (h : Below wc.heap.size wc w') => And.intro (HG1.out.fu.x.below h).c0 (And.intro (HG1.out.fu.x.below h).c1 h))
              have HD := Lib.hid (show Below wc.heap.size wc wc.drew from below_drew' (Below.refl _ _))
              go_cut [13, 14] (fun s11 s12 wx => ∃ k a' cap' ai ci, s11 = .pointer (some ⟨k, 0, none⟩) ∧ s12 = .slice ai I.length ci ∧ Hid (Below wc.heap.size wc wx) ∧ Hid (Wi wx k wc.heap.size wx.heap.size tg a' S.length cap' S (.slice ai I.length ci) I))
              case first =>
                go_region_held3 (fun w' => w'.cell? ⟨b3, 0, none⟩ = some (.int .i64 now) ∧ w'.cell? ⟨b3, 1, none⟩ = some (.slice a l.length cap) ∧ Below wc.heap.size wc w')
                  (first
                    | exact HKS.out _ HD.out
                    | exact HKS.out _ HLC.out
                    | exact HKS.out _ HLB.out
                    | exact HKS.out _ HLA.out
                    | exact HKS.out _ (low_alloc HLC.out _)
                    | exact HKS.out _ (low_alloc HLB.out _)
                    | exact HKS.out _ (low_alloc HLA.out _)
                    | exact HKS.out _ (low_alloc HD.out _)
                    | exact HKS.out _ (low_put HLC.out HLB.out.size _ _)
                    | exact HKS.out _ (low_put HLC.out HLA.out.size _ _)
                    | exact HKS.out _ (low_put HLC.out HD.out.size _ _)
                    | exact HKS.out _ (low_put HLC.out (Nat.le_refl _) _ _))
                  (first
                    | (go_at_call 28; (with_reducible refine (at_int _ w.heap.size a0 len0 cap0 cf (HC.out.below (low_after HG1.out.fu.low ((‹_ ∧ _ ∧ Below wc.heap.size wc _›).2.2))) (q : Int) (by omega) (by omega) z HZ.out).mono ?_); rintro e wB ⟨⟨rfl, hz0, hz1⟩, rfl⟩; have HLB := Lib.hid ((‹_ ∧ _ ∧ Below wc.heap.size wc _›).2.2))
                    | (go_at_call 26; (with_reducible refine (specTurnWheel_any _ a l.length cap now l tg ((HG1.out.fu.below ((‹_ ∧ _ ∧ Below wc.heap.size wc _›).2.2)).own.isN) (by omega) HCAP.out).mono ?_); rintro e w3 ⟨⟨a3, cap3, vi3, rfl, ho3, hi3⟩, hbC⟩; obtain ⟨ai3, ci3, rfl⟩ := hi3.shape; rw [HT2.out] at ho3 ⊢; rw [HT3.out] at hi3 ⊢; rw [HT1.out]; have HLC := Lib.hid (low_after ((‹_ ∧ _ ∧ Below wc.heap.size wc _›).2.2) hbC); (first | (have hbk := Bz.step1 HBK.out hbC; have HBK := Lib.hid hbk.1; have HKL := Lib.hid hbk.2; obtain ⟨z0, z1, g0, g1, zl⟩ := hbk.1.cells; clear hbk) | (have hbk := Bz.step2 hbC; have HBK := Lib.hid hbk.1; have HKL := Lib.hid hbk.2; obtain ⟨z0, z1, g0, g1, zl⟩ := hbk.1.cells; clear hbk) | (have hbk := Bz.step3 hbC; have HBK := Lib.hid hbk.1; have HKL := Lib.hid hbk.2; obtain ⟨z0, z1, g0, g1, zl⟩ := hbk.1.cells; clear hbk) | skip)))
                all_goals
                  go_wp2_with fail
                  go_meet
                  first
                    | exact ⟨_, _, _, _, _, rfl, rfl, Lib.hid (low_alloc HLC.out _), Lib.hid (Wi.new ho3 hi3 (HLB.out.size) hbC.size _)⟩
                    | exact ⟨_, _, _, _, _, rfl, rfl, Lib.hid (low_put HLC.out (by first | exact HLB.out.size | exact HLA.out.size | exact HD.out.size | exact Nat.le_refl _) _ _), Lib.hid (Wi.put HBK.out ho3 hi3 HKL.out (by first | exact HLB.out.size | exact HLA.out.size | exact HD.out.size | exact Nat.le_refl _) _)⟩
              case rest =>
                obtain ⟨k2, a2, cap2, ai2, ci2, rfl, rfl, HB2, HU2⟩ := hcut
                have HV2 := Lib.hid (HV1.out.below HB2.out)
                have HG2 := Lib.hid (HG1.out.below HB2.out)
                have HLO := Lib.hid HG.out.lt
                have HB3 := Lib.hid HG.out.fu.x.lt
                obtain ⟨c0, c1, lt0⟩ := HV2.out.wh.cells
                obtain ⟨d0, d1, lt1⟩ := HU2.out.wh.cells
                clear HV1 HG1 HG HB1 HB2 hwn hmz hwz hwt
                go_wp2_with fail
                refine (sameWheel_yes _ _ a1 a2 S.length cap1 cap2 tg S HV2.out.wh.is HU2.out.wh.is (by omega) (Nat.le_refl _)).mono ?_
                rintro e w4 ⟨rfl, hb4⟩
                have HV4 := Lib.hid (HV2.out.below hb4)
                have HU4 := Lib.hid (HU2.out.below hb4)
                have HG4 := Lib.hid (HG2.out.below hb4)
                clear hb4 c0 c1 lt0 d0 d1 lt1 HV2 HU2 HG2
                go_wp2_with fail
                refine (sameInts_yes _ _ ai1 ai2 I.length ci1 ci2 I HV4.out.ii.isN HU4.out.ii.isN (by omega) (Nat.le_refl _)).mono ?_
                rintro e w5 ⟨rfl, hb5⟩
                have HV5 := Lib.hid (HV4.out.below hb5)
                have HG5 := Lib.hid (HG4.out.below hb5)
                obtain ⟨c0, c1, lt0⟩ := HV5.out.wh.cells
                obtain ⟨bb, hbb⟩ : ∃ bb, bb = decide (qn ≤ tg) := ⟨_, rfl⟩
                have hd1 : decide ((0 : Int) < (I.length : Int)) = bb := HIB.out.trans hbb.symm
                have hd2 : decide (qn ≤ tg) = bb := hbb.symm
                have hd3 : decide (0 < I.length) = bb := by rw [← hd1]; exact decide_eq_decide.2 (by omega)
                have hne : (!bb == bb) = false := by cases bb <;> rfl
                have HIS := Lib.hid HV5.out.ii.isN
                have HCI := Lib.hid HV5.out.ii.nilcap
                have HZ5 := Lib.hid (show xs.length + I.length ≤ 2000000 by omega)
                clear hbb hb5 HV4 HU4 HG4 HIB
                go_wp2_with (first
                  | (at_builtin; refine wpList_append_run (by rfl) _ _ _ rfl _ _ (by simp [Act.eval]) (by simp [Act.eval]) (app_iis (cap := ci1) HG5.out.ii HIS.out HCI.out HZ5.out HG5.out.fu.low.size) ?_; intro v12 w12 happ; obtain ⟨a12, n12, c12, rfl⟩ := happ.form; have HW12 := Lib.hid (HV5.out.mark_hi happ.2.1 HLO.out); have HG12 := Lib.hid (HG5.out.app happ); clear happ c0 c1 lt0; obtain ⟨c0, c1, f0, f1, l3⟩ := HG12.out.fu.cells; obtain ⟨d0, d1, lt1⟩ := HW12.out.cells)
                  | fail)
                go_roundw
                case rel => exact ⟨q + 1, tg, a1, _, cap1, S, a12, n12, c12, xs ++ I, by omega, by go_num, rfl, Lib.hid rfl, HST, Lib.hid (HG12.out.put HW12.out.own HB3.out tg)⟩
                case measure => simp [intOf]; omega
          · have hgob : decide ((q : Int) < 400 ∧ 0 < l.length) = false := decide_eq_false hgo
            obtain ⟨hl0, hxs⟩ := HQ.out.done HLL.out (by
              by_cases h4 : (q : Int) < 400
              · right
                have h5 : ¬ 0 < l.length := fun h => hgo ⟨h4, h⟩
                exact List.eq_nil_of_length_eq_zero (by omega)
              · left; omega)
            have HONE := Lib.hid (fun (i : Int) (h0 : 1 ≤ i) (h1 : i ≤ N) => show cntL xs i xs.length = 1 by rw [hxs]; exact HLL.out.once h0 (by have := HNJ.out; omega))
            obtain ⟨a9, c9, e9⟩ := HF.out.ii.shape
            simp only [Value.slice.injEq] at e9
            obtain rfl : nd = xs.length := e9.2.1
            have HII := Lib.hid HF.out.ii.isN
            subst hl0
            rw [hgob]
            clear hgob hgo hxs e9
            have HLOW := Lib.hid HF.out.fu.low
            clear HQ HF
            go_wp2_with fail
            go_loopw [15] (fun s15 wr' => ∃ p : Nat, (p : Int) ≤ N ∧ s15 = .int .i64 ((p : Int) + 1) ∧ wr' = wc) (fun s15 _ => (N + 1 - intOf s15).toNat)
            case atStart => exact ⟨0, by omega, by go_num, rfl⟩
            case round =>
              obtain ⟨p, hp, rfl, rfl⟩ := hrel
              obtain ⟨i, hi⟩ : ∃ i : Int, i = (p : Int) + 1 := ⟨_, rfl⟩
              rw [← hi]
              by_cases hlt : (p : Int) < N
              · have hd : decide (i ≤ N) = true := by simp; omega
                have hiN : i ≤ N := by omega
                have hi1 : 1 ≤ i := by omega
                have H1 := Lib.hid (HONE.out i hi1 hiN)
                have HI := Lib.hid hi
                clear hi hlt hp
                go_wp2_with fail
                go_loopw [16, 17] (fun s16 s17 wr' => ∃ k : Nat, k ≤ xs.length ∧ s17 = .int .i64 (k : Int) ∧ s16 = .int .i64 (cntL xs i k) ∧ wr' = wr) (fun _ s17 _ => xs.length - (intOf s17).toNat)
                case atStart => exact ⟨0, by omega, rfl, by rw [cntL_zero], rfl⟩
                case round =>
                  obtain ⟨k, hk, rfl, rfl, rfl⟩ := hrel
                  by_cases hkl : (k : Int) < (xs.length : Int)
                  · have hkn : k < xs.length := by omega
                    obtain ⟨bd, od, rfl, hbd, e0⟩ := HII.out.cell k hkn
                    have hcb := cntL_le xs i k
                    obtain ⟨u, hu⟩ : ∃ u, u = xs[k] := ⟨_, rfl⟩
                    rw [← hu] at e0
                    obtain ⟨c, hc⟩ : ∃ c, c = cntL xs i k := ⟨_, rfl⟩
                    rw [← hc] at hcb ⊢
                    by_cases hui : u = i
                    · have hub : (u == i) = true := by simpa using hui
                      have HC1 := Lib.hid (show cntL xs i (k + 1) = c + 1 by rw [hc]; exact cntL_yes hkn (by rw [← hu]; exact hui))
                      have hwc : wrap64 (c + 1) = c + 1 := by unfold wrap64; omega
                      have hwc2 : IntKind.i64.wrap (c + 1) = c + 1 := IntWalk.i64_in _ (by omega)
                      clear hc hu hui hkn
                      go_wp2_with fail
                      go_roundw
                      case rel => exact ⟨k + 1, by omega, by go_num, by rw [HC1.out], by first | trivial | rfl⟩
                      case measure => simp [intOf]; omega
                    · have hub : (u == i) = false := by simpa using hui
                      have HC1 := Lib.hid (show cntL xs i (k + 1) = c by rw [hc]; exact cntL_no hkn (by rw [← hu]; exact hub))
                      clear hc hu hui hkn
                      go_wp2_with fail
                      go_roundw
                      case rel => exact ⟨k + 1, by omega, by go_num, by rw [HC1.out], by first | trivial | rfl⟩
                      case measure => simp [intOf]; omega
                  · have hc1 : cntL xs i k = 1 := by
                      have : k = xs.length := by omega
                      rw [this]; exact H1.out
                    rw [hc1]
                    clear hc1
                    have hwi : IntKind.i64.wrap (i + 1) = i + 1 := IntWalk.i64_in _ (by omega)
                    have hwi2 : wrap64 (i + 1) = i + 1 := by unfold wrap64; omega
                    go_wp2_with fail
                    have hi := HI.out
                    go_roundw
                    case rel => exact ⟨p + 1, by omega, by first | rw [hi]; go_num | go_num, by first | trivial | rfl⟩
                    case measure => simp [intOf]; omega
              · have hd : decide (i ≤ N) = false := by simp; omega
                clear hlt hi hp
                go_wp2_with fail
                go_ret
                exact ⟨rfl, HLOW.out⟩
end Go.Proofs.YtkoliacbajpijaaDoor.Whl
