/-
  The walk of the law FnHurt.
-/
import Derived.Test.YtgbdmpfojiihnaaGotA
import Derived.Test.YtgbdmpfojiihnaaAtA
import Derived.Test.YtgbdmpfojiihnaaBig
import Derived.Test.YtgbdmpfojiihnaaFhuA
import Derived.Test.YtgbdmpfojiihnaaDecW
namespace Go.Proofs.Ytgbdmpfojiihnaa.Frm
open Go.RowKit Go.Proofs.Ytgbdmpfojiihnaa.Num Go.Proofs.Ytgbdmpfojiihnaa.Kit Go.Proofs.Ytgbdmpfojiihnaa.Draw Go.Proofs.Ytgbdmpfojiihnaa.Ck
set_option linter.unusedVariables false
set_option linter.unusedSimpArgs false

theorem back_row' {P : Program} (src dst e : TypeId) (hs : P.underlying src = some (.slice e)) (he : P.underlying e = some (.int .u8)) (hd : P.underlying dst = some .string) {w : World} {g : Nat} {l : List UInt8} (h : BRow w g l) (n cap : Nat) (hn : n = l.length) :
    (convert src dst (.slice (some ⟨g, 0, none⟩) n cap)).run P w = .ok (.string ⟨l.toArray⟩) w := by
  subst hn
  exact run_convert_bytes_back w src dst e ⟨g, 0, none⟩ cap l hs he hd (fun j hj => by rw [show (⟨g, 0, none⟩ : Addr).add j = ⟨g, j, none⟩ by unfold Addr.add; split <;> simp_all]; exact h.cell j hj)
theorem brow_below {w w' : World} {g : Nat} {l : List UInt8} (h : BRow w g l) (hg : g < w.heap.size) (hb : Below w.heap.size w w') : BRow w' g l := by
  obtain ⟨C, T, f0, f1, hh, r⟩ := h
  exact ⟨C, T, f0, f1, (hb.block g hg).trans hh, r⟩
theorem wrap_byte (c : UInt8) : wrap64 (c.toNat : Int) = (c.toNat : Int) := by have := c.toNat_lt; unfold wrap64; omega

set_option maxRecDepth 100000 in
set_option maxHeartbeats 4000000 in
theorem fnHurt_walk (w : World) (a0 : Option Addr) (len0 cap0 : Nat) (zs : List Int) (hrow : IsRow .u8 w a0 len0 cap0 zs) :
    Calls Try.prog 4 #[.slice a0 len0 cap0] w fun e w' => e = .returned (.bool true) ∧ Below w.heap.size w w' := by
  obtain ⟨cf, hcf⟩ : ∃ cf : Nat → Int, CodeIs w.heap.size w a0 len0 cap0 cf := ⟨_, hrow.codeIs⟩
  have hle := hcf.le
  have HC := Lib.hid hcf
  have HLE := Lib.hid hle
  clear hrow hcf hle
  go_enter Try.func4, Try.ntmps4
  by_cases hbig : (1048576 : Int) < (len0 : Int)
  · go_wp2_with fail
    refine (big_yes _ a0 len0 cap0 HLE.out hbig).mono ?_
    rintro e w' ⟨rfl, rfl⟩
    go_wp2_with fail
    go_ret
    exact ⟨rfl, Below.refl _ _⟩
  go_wp2_with fail
  refine (big_no _ a0 len0 cap0 HLE.out (by omega)).mono ?_
  rintro e w' ⟨rfl, rfl⟩
  clear hbig
  go_wp2_with fail
  refine (at_int _ w.heap.size a0 len0 cap0 cf HC.out 0 (by omega) (by omega) _ rfl).mono ?_
  rintro e w' ⟨⟨rfl, hz0, hz1⟩, rfl⟩
  obtain ⟨z, hz⟩ : ∃ z, z = atF cf len0 (0 : Int).toNat := ⟨_, rfl⟩
  rw [← hz] at hz0 hz1 ⊢
  clear hz
  have hmz : z.tmod 6 = z % 6 := Int.tmod_eq_emod_of_nonneg hz0
  have hwmz : IntKind.i64.wrap (z.tmod 6) = z % 6 := by rw [hmz]; exact IntWalk.i64_in _ (by omega)
  obtain ⟨D, hD⟩ : ∃ D, D = 1 + z % 6 := ⟨_, rfl⟩
  have hwz : IntKind.i64.wrap (1 + z % 6) = D := by rw [hD]; exact IntWalk.i64_in _ (by omega)
  have hD0 : 1 ≤ D := by omega
  have hD1 : D ≤ 6 := by omega
  clear hD
  go_wp2_with fail
  refine (at_int _ w.heap.size a0 len0 cap0 cf HC.out 1 (by omega) (by omega) _ rfl).mono ?_
  rintro e w' ⟨⟨rfl, hy0, hy1⟩, rfl⟩
  obtain ⟨y, hy⟩ : ∃ y, y = atF cf len0 (1 : Int).toNat := ⟨_, rfl⟩
  rw [← hy] at hy0 hy1 ⊢
  clear hy
  clear hmz hwmz hwz hz0 hz1
  go_wp2_with fail
  refine (at_int _ w.heap.size a0 len0 cap0 cf HC.out 2 (by omega) (by omega) _ rfl).mono ?_
  rintro e w' ⟨⟨rfl, hx0, hx1⟩, rfl⟩
  obtain ⟨x, hx⟩ : ∃ x, x = atF cf len0 (2 : Int).toNat := ⟨_, rfl⟩
  rw [← hx] at hx0 hx1 ⊢
  clear hx
  obtain ⟨S, hS⟩ : ∃ S, S = 1 + x := ⟨_, rfl⟩
  have hwx : IntKind.i64.wrap (1 + x) = S := by rw [hS]; exact IntWalk.i64_in _ (by omega)
  have hS0 : 1 ≤ S := by omega
  have hS1 : S ≤ 256 := by omega
  clear hS
  go_wp2_with fail
  refine (at_int _ w.heap.size a0 len0 cap0 cf HC.out 3 (by omega) (by omega) _ rfl).mono ?_
  rintro e w' ⟨⟨rfl, hv0, hv1⟩, rfl⟩
  obtain ⟨v, hv⟩ : ∃ v, v = atF cf len0 (3 : Int).toNat := ⟨_, rfl⟩
  rw [← hv] at hv0 hv1 ⊢
  clear hv
  obtain ⟨I, hI⟩ : ∃ I, I = 1 + v := ⟨_, rfl⟩
  have hwv : IntKind.i64.wrap (1 + v) = I := by rw [hI]; exact IntWalk.i64_in _ (by omega)
  have hI0 : 1 ≤ I := by omega
  have hI1 : I ≤ 256 := by omega
  clear hI
  clear hwx hx0 hx1
  go_wp2_with fail
  refine (at_int _ w.heap.size a0 len0 cap0 cf HC.out 4 (by omega) (by omega) _ rfl).mono ?_
  rintro e w' ⟨⟨rfl, hu0, hu1⟩, rfl⟩
  obtain ⟨u, hu⟩ : ∃ u, u = atF cf len0 (4 : Int).toNat := ⟨_, rfl⟩
  rw [← hu] at hu0 hu1 ⊢
  clear hu
  obtain ⟨V, hV⟩ : ∃ V, V = u * 1000 := ⟨_, rfl⟩
  have hwu : IntKind.i64.wrap (u * 1000) = V := by rw [hV]; exact IntWalk.i64_in _ (by omega)
  have hV0 : 0 ≤ V := by omega
  have hV1 : V ≤ 255000 := by omega
  clear hV
  clear hwv hv0 hv1
  go_wp2_with fail
  refine (Dec.specDec_any V _ (by omega) (by omega)).mono ?_
  rintro e w' ⟨rfl, rfl⟩
  clear hwu hu0 hu1
  have hbl := itoa_le V (by omega) (by omega)
  obtain ⟨b, hbd⟩ : ∃ b : ByteArray, b = ⟨(Lib.itoa V).toArray⟩ := ⟨_, rfl⟩
  have hbs : b.size ≤ 20 := by rw [hbd]; show (Lib.itoa V).toArray.size ≤ _; simpa using hbl
  rw [← hbd]
  clear hbd hbl hV0 hV1
  have HOK := Lib.hid (show FOk 1 D y S I b.size by unfold FOk; omega)
  have HB0 := Lib.hid (B6.new w 1 D y S I b 25)
  have HL0 := Lib.hid (bOne w (.cells #[.int .i64 1, .int .i64 D, .int .i64 y, .int .i64 S, .int .i64 I, .string b] 25))
  go_wp2_with fail
  refine (implPut_any 1 D y S I b _ (by unfold maxLen; omega)).mono ?_
  rintro e w1 ⟨rfl, hb1⟩
  have HL1 := Lib.hid (low_after HL0.out hb1)
  have HB1 := Lib.hid (HB0.out.below hb1)
  clear hb1 HL0 HB0
  obtain ⟨c0, c1, c2, c3, c4, c5, hlt⟩ := HB1.out
  obtain ⟨P, hP⟩ : ∃ P : ByteArray, P = ⟨(putF 1 D y S I b.data.toList).toArray⟩ := ⟨_, rfl⟩
  have HPB := Lib.hid (show P.data.toList = frBytes 1 D y S I b.data.toList by rw [hP]; exact put_text HOK.out)
  have HPT := Lib.hid (show (⟨(putF 1 D y S I b.data.toList).toArray⟩ : ByteArray) = P from hP.symm)
  rw [← hP]
  clear hP
  have hps := put_size HOK.out HPB.out
  have HP0 := Lib.hid ((back HOK.out HPB.out).1)
  go_wp2_with fail
  refine (specPut_any 1 D y S I b _ (by unfold maxLen; omega)).mono ?_
  rintro e w2 ⟨rfl, hb2⟩
  rw [HPT.out]
  have HL2 := Lib.hid (low_after HL1.out hb2)
  clear hb2 HL1 HB1 c0 c1 c2 c3 c4 c5 hlt HPT
  have hcv := fun w => run_bytes_of_string (P := Try.prog) w 9 22 5 P Try.underlying9 Try.underlying22 Try.underlying5
  obtain ⟨l, hl⟩ : ∃ l, l = P.data.toList := ⟨_, rfl⟩
  have hll : l.length = P.size := by rw [hl, len_size]
  have HLP := Lib.hid hl
  clear hl
  go_wp2_with fail
  obtain ⟨N, hN⟩ : ∃ N : Nat, N = 11 + b.size := ⟨_, rfl⟩
  rw [← hN] at hps ⊢
  obtain ⟨cp, hcp⟩ : ∃ cp, cp = grownCap w2 N 0 5 := ⟨_, rfl⟩
  rw [← hcp]
  clear hcp hcv
  have HR3 := Lib.hid (show BRow (w2.alloc (.cells (bytesRow P cp) 5 ((bytesRow P cp).size, (bytesRow P cp).size + 1))).drew w2.heap.size l by rw [HLP.out]; exact brow_new w2 P 5 cp _)
  have HL3 := Lib.hid (show Below w.heap.size w (w2.alloc (.cells (bytesRow P cp) 5 ((bytesRow P cp).size, (bytesRow P cp).size + 1))).drew from low_drew (low_alloc HL2.out _))
  obtain ⟨w3, hw3⟩ : ∃ w3, w3 = (w2.alloc (.cells (bytesRow P cp) 5 ((bytesRow P cp).size, (bytesRow P cp).size + 1))).drew := ⟨_, rfl⟩
  have HG := Lib.hid (show w.heap.size ≤ w2.heap.size from HL2.out.size)
  have HGL := Lib.hid (show w2.heap.size < w3.heap.size by rw [hw3]; simp)
  rw [← hw3] at HR3 HL3 ⊢
  obtain ⟨g, hg⟩ : ∃ g, g = w2.heap.size := ⟨_, rfl⟩
  rw [← hg] at HR3 HG HGL ⊢
  clear hw3 hg HL2
  have hN0 : 11 ≤ N := by omega
  have hN1 : N ≤ 31 := by omega
  clear hN hbs
  refine (at_int _ w.heap.size a0 len0 cap0 cf (HC.out.below HL3.out) 5 (by omega) (by omega) _ rfl).mono ?_
  rintro e w' ⟨⟨rfl, ht0, ht1⟩, rfl⟩
  obtain ⟨t, ht⟩ : ∃ t, t = atF cf len0 (5 : Int).toNat := ⟨_, rfl⟩
  rw [← ht] at ht0 ht1 ⊢
  clear ht
  have hmt : t.tmod (N : Int) = t % (N : Int) := Int.tmod_eq_emod_of_nonneg ht0
  obtain ⟨J, hJ⟩ : ∃ J : Nat, t % (N : Int) = (J : Int) := ⟨(t % (N : Int)).toNat, by have := Int.emod_nonneg t (show (N : Int) ≠ 0 by omega); omega⟩
  have hJN : J < N := by have := Int.emod_lt_of_pos t (show (0 : Int) < N by omega); omega
  have hmJ : t.tmod (N : Int) = (J : Int) := hmt.trans hJ
  have hwJ : IntKind.i64.wrap (J : Int) = (J : Int) := IntWalk.i64_in _ (by omega)
  have hnz : ¬ ((N : Int) = 0) := by omega
  clear hmt hJ
  go_wp2_with fail
  refine (at_int _ w.heap.size a0 len0 cap0 cf (HC.out.below HL3.out) 6 (by omega) (by omega) _ rfl).mono ?_
  rintro e w' ⟨⟨rfl, hr0, hr1⟩, rfl⟩
  obtain ⟨r, hr⟩ : ∃ r, r = atF cf len0 (6 : Int).toNat := ⟨_, rfl⟩
  rw [← hr] at hr0 hr1 ⊢
  clear hr
  have hmr : r.tmod 254 = r % 254 := Int.tmod_eq_emod_of_nonneg hr0
  have hwmr : IntKind.i64.wrap (r.tmod 254) = r % 254 := by rw [hmr]; exact IntWalk.i64_in _ (by omega)
  obtain ⟨B, hB⟩ : ∃ B, B = 1 + r % 254 := ⟨_, rfl⟩
  have hwr : IntKind.i64.wrap (1 + r % 254) = B := by rw [hB]; exact IntWalk.i64_in _ (by omega)
  have hB0 : 1 ≤ B := by omega
  have hB1 : B ≤ 254 := by omega
  clear hB
  have hJl : J < l.length := by omega
  have hcell := HR3.out.cell J hJl
  have hfr := HR3.out.frozen J hJl
  obtain ⟨L, hL⟩ : ∃ L : Int, L = (l[J].toNat : Int) := ⟨_, rfl⟩
  have hL1 : L < 256 := by have := byte_bd l[J]; omega
  have hL0 : 0 ≤ L := by omega
  rw [← hL] at hcell
  have hwL : wrap64 L = L := by unfold wrap64; omega
  have hwL2 : IntKind.i64.wrap L = L := IntWalk.i64_in _ (by omega)
  obtain ⟨Q, hQ⟩ : ∃ Q : Int, Q = L + B := ⟨_, rfl⟩
  have hwQ : IntKind.i64.wrap (L + B) = Q := by rw [hQ]; exact IntWalk.i64_in _ (by omega)
  have hwQ2 : wrap64 (L + B) = Q := by rw [hQ]; unfold wrap64; omega
  obtain ⟨R, hR⟩ : ∃ R : Int, R = (L + B) % 255 := ⟨_, rfl⟩
  have hR0 : 0 ≤ R := by omega
  have hR1 : R < 255 := by omega
  have hmQ : Q.tmod 255 = R := by rw [hR, hQ]; exact Int.tmod_eq_emod_of_nonneg (by omega)
  have hwR : IntKind.i64.wrap R = R := IntWalk.i64_in _ (by omega)
  have hwR2 : R % 256 = R := by omega
  obtain ⟨U, hU⟩ : ∃ U : UInt8, U = UInt8.ofNat R.toNat := ⟨_, rfl⟩
  have hUR : (U.toNat : Int) = R := by
    have : (UInt8.ofNat R.toNat).toNat = R.toNat := by simp; omega
    rw [hU, this]; omega
  have hset := HR3.out.set J hJl U R hUR.symm
  have HSET := Lib.hid hset
  have HLS := Lib.hid (HL3.out.setCell (p := ⟨g, J, none⟩) HG.out (.int .u8 R))
  have HGS := Lib.hid (show g < (w3.setCell ⟨g, J, none⟩ (.int .u8 R)).heap.size by simpa using HGL.out)
  have hlS : (l.set J U).length = N := by rw [List.length_set]; omega
  have hback := back_row' (P := Try.prog) (w := w3.setCell ⟨g, J, none⟩ (.int .u8 R)) 22 9 5 Try.underlying22 Try.underlying5 Try.underlying9 hset N cp hlS.symm
  obtain ⟨T, hT⟩ : ∃ T : ByteArray, T = ⟨(l.set J U).toArray⟩ := ⟨_, rfl⟩
  have HTL := Lib.hid (show T.data.toList = l.set J U by rw [hT])
  have HTM := Lib.hid hT
  have hts : T.size = N := by rw [← len_size, HTL.out, hlS]
  rw [← hT] at hback
  have HRL := Lib.hid (show R = ((l[J].toNat : Int) + B) % 255 by rw [hR, hL])
  clear hU hset hL hQ hR hT
  obtain ⟨w4, hw4⟩ : ∃ w4, w4 = w3.setCell ⟨g, J, none⟩ (.int .u8 R) := ⟨_, rfl⟩
  have HW4 := Lib.hid hw4
  rw [← hw4] at hback HLS HGS HSET
  clear hw4
  go_upto_region 11 with fail
  rw [← HW4.out]
  clear hcell hfr hwL hwL2 hwQ hwQ2 hmQ hwR hwR2 hmr hwmr hwr hr0 hr1 hmJ hwJ hnz hL0 hL1 hR0 hR1
  have HUR := Lib.hid hUR
  clear hUR
  go_wp2_with fail
  refine (implGet_any T _ (by omega)).mono ?_
  rintro e w5 ⟨he, hb5⟩
  obtain ⟨k5, d5, e5, s5, i5, b5, _, rfl⟩ := he.val
  clear he
  have HL5 := Lib.hid (low_alloc (low_after HLS.out hb5) (.cells #[.int .i64 k5, .int .i64 d5, .int .i64 e5, .int .i64 s5, .int .i64 i5, .string b5] 25))
  have hbel5 := hb5.trans ((bOne w5 (.cells #[.int .i64 k5, .int .i64 d5, .int .i64 e5, .int .i64 s5, .int .i64 i5, .string b5] 25)).mono hb5.size)
  have HR5 := Lib.hid (brow_below HSET.out HGS.out hbel5)
  have HG5 := Lib.hid (Nat.lt_of_lt_of_le HGS.out hbel5.size)
  have hback5 := back_row' (P := Try.prog) 22 9 5 Try.underlying22 Try.underlying5 Try.underlying9 HR5.out N cp hlS.symm
  rw [← HTM.out] at hback5
  clear hb5 hbel5 hback HLS HSET HGS
  obtain ⟨w6, hw6⟩ : ∃ w6, w6 = w5.alloc (.cells #[.int .i64 k5, .int .i64 d5, .int .i64 e5, .int .i64 s5, .int .i64 i5, .string b5] 25) := ⟨_, rfl⟩
  have HW6 := Lib.hid hw6
  rw [← hw6] at hback5 HL5 HR5 HG5
  clear hw6
  go_upto_region 12 with fail
  rw [← HW6.out]
  go_wp2_with fail
  refine (specGet_any T _ (by omega)).mono ?_
  rintro e w7 ⟨he, hb7⟩
  obtain ⟨k7, d7, e7, s7, i7, b7, _, rfl⟩ := he.val
  clear he
  have HL7 := Lib.hid (low_alloc (low_after HL5.out hb7) (.cells #[.int .i64 k7, .int .i64 d7, .int .i64 e7, .int .i64 s7, .int .i64 i7, .string b7] 25))
  have hbel7 := hb7.trans ((bOne w7 (.cells #[.int .i64 k7, .int .i64 d7, .int .i64 e7, .int .i64 s7, .int .i64 i7, .string b7] 25)).mono hb7.size)
  have HR7 := Lib.hid (brow_below HR5.out HG5.out hbel7)
  have hback7 := back_row' (P := Try.prog) 22 9 5 Try.underlying22 Try.underlying5 Try.underlying9 HR7.out N cp hlS.symm
  rw [← HTM.out] at hback7
  clear hb7 hbel7 hback5 HR5 HG5
  by_cases hc0 : gcode T = 0
  · rw [hc0]
    have h255 : l[J].toNat = 255 := by
      refine Decidable.byContradiction fun hx => ?_
      have hlp := HLP.out
      subst hlp
      exact hurt HP0.out hJl hB0 hB1 (by rw [HUR.out, HRL.out]) HTL.out hx hc0
    have hJP : J < P.size := by omega
    have hPJ : ((P[J]'hJP).toNat : Int) = 255 := by
      have hlp := HLP.out
      subst hlp
      have : P[J]'hJP = P.data.toList[J] := by simp; rfl
      rw [this, h255]; rfl
    have hPb : (((P[J]'hJP).toNat : Int) == 255) = true := by rw [hPJ]; rfl
    go_wp2_with fail
    all_goals
      go_ret
      exact ⟨rfl, HL7.out⟩
  · have hcb : (gcode T == 0) = false := by simpa using hc0
    have hcb2 : (gcode T != 0) = true := by simpa using hc0
    go_wp2_with fail
    go_ret
    exact ⟨rfl, HL7.out⟩
end Go.Proofs.Ytgbdmpfojiihnaa.Frm
