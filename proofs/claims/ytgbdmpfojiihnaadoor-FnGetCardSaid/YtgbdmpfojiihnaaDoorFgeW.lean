/-
  The draws of FnGet, second part: the bytes of a frame, as they are or changed.
-/
import Derived.Test.YtgbdmpfojiihnaaDoorFgdW
import Derived.Test.YtgbdmpfojiihnaaDoorCkA
namespace Go.Proofs.YtgbdmpfojiihnaaDoor.Fdw
open Go.RowKit Go.Proofs.YtgbdmpfojiihnaaDoor.Kit Go.Proofs.YtgbdmpfojiihnaaDoor.Frm Go.Proofs.YtgbdmpfojiihnaaDoor.Drw Go.Proofs.YtgbdmpfojiihnaaDoor.Num
open Go.Proofs.YtgbdmpfojiihnaaDoor.Ck (BRow brow_new)
set_option linter.unusedVariables false
set_option linter.unusedSimpArgs false

theorem back_row2 {P : Program} (src dst e : TypeId) (hs : P.underlying src = some (.slice e)) (he : P.underlying e = some (.int .u8)) (hd : P.underlying dst = some .string) {w : World} {g : Nat} {l : List UInt8} (h : BRow w g l) (n cap : Nat) (hn : n = l.length) :
    (convert src dst (.slice (some ⟨g, 0, none⟩) n cap)).run P w = .ok (.string ⟨l.toArray⟩) w := by
  subst hn
  exact run_convert_bytes_back w src dst e ⟨g, 0, none⟩ cap l hs he hd (fun j hj => by rw [show (⟨g, 0, none⟩ : Addr).add j = ⟨g, j, none⟩ by unfold Addr.add; split <;> simp_all]; exact h.cell j hj)
theorem brow_lt {w : World} {g : Nat} {l : List UInt8} (h : BRow w g l) : g < w.heap.size := by
  obtain ⟨C, T, f0, f1, hh, _⟩ := h
  exact at_lt hh
theorem brow_low {w w' : World} {g : Nat} {l : List UInt8} (h : BRow w g l) (hb : Below w.heap.size w w') : BRow w' g l := by
  have hg := brow_lt h
  obtain ⟨C, T, f0, f1, hh, r⟩ := h
  exact ⟨C, T, f0, f1, (hb.block g hg).trans hh, r⟩
theorem brow_grown {w w' : World} {g cb : Nat} {l : List UInt8} (h : BRow w g l) (hb : w.grownBy w' (some cb)) (hne : g ≠ cb) : BRow w' g l := by
  have hg := brow_lt h
  obtain ⟨C, T, f0, f1, hh, r⟩ := h
  exact ⟨C, T, f0, f1, (hb.block g hg (fun e => hne (by injection e))).trans hh, r⟩
theorem WntE.low {B : Nat} {w w1 w2 : World} {cb : Nat} {a : Option Addr} {len cap : Nat} {c : Nat → Int} (h : WntE B w w1 cb a len cap c) (hB : B ≤ w.heap.size) (hb : Below w1.heap.size w1 w2) : WntE B w w2 cb a len cap c := h.step hB hb

theorem once_e (w : World) (cb B : Nat) (a : Option Addr) (len cap : Nat) (c : Nat → Int) (hd : DrwE B w cb a len cap c) (n : Int) (h1 : 1 ≤ n) (h2 : n ≤ 256) :
    Calls Tryd.prog 19 #[.pointer (some ⟨cb, 0, none⟩), .int .i64 n] w fun e w' => (∃ b : Bool, e = .returned (.bool b)) ∧ WntE B w w' cb a len cap c := by
  have HD := Lib.hid hd
  clear hd
  go_enter Tryd.func19, Tryd.ntmps19
  go_wp2_with fail
  refine (below_e _ cb B a len cap c HD.out n h1 h2).mono ?_
  rintro en w1 ⟨⟨k, rfl, _, _⟩, hw⟩
  go_wp2_with fail
  go_ret
  exact ⟨⟨_, rfl⟩, hw⟩
theorem nums_b (W : World) : Draw.Nums (W.alloc (.cells #[.int .i64 0, .int .i64 1, .int .i64 2, .int .i64 5, .int .i64 7, .int .i64 255] 3)) W.heap.size 6 (fun z => 0 ≤ z ∧ z < 256) := Draw.nums_new W [.int .i64 0, .int .i64 1, .int .i64 2, .int .i64 5, .int .i64 7, .int .i64 255] 3 _ (by
  intro v hv
  simp only [List.mem_cons, List.mem_nil_iff, or_false] at hv
  rcases hv with rfl | rfl | rfl | rfl | rfl | rfl <;> exact ⟨_, rfl, by omega⟩)

set_option maxRecDepth 100000 in
set_option maxHeartbeats 4000000 in
theorem bytes_e (w : World) (cb B : Nat) (a : Option Addr) (len cap : Nat) (c : Nat → Int) (hd : DrwE B w cb a len cap c) (hlen : len ≤ 1048576) (hB : B ≤ w.heap.size) :
    Calls Tryd.prog 22 #[.pointer (some ⟨cb, 0, none⟩)] w fun en w' => TxEnd B w w' cb a len cap c 100 en := by
  have hcb := hd.lt
  have HD := Lib.hid hd
  have HLEN := Lib.hid hlen
  have HBL := Lib.hid hB
  clear hd hlen hB
  go_enter Tryd.func22, Tryd.ntmps22
  go_wp2_with fail
  refine (make_ok _ cb B a len cap c HD.out HLEN.out HBL.out).mono ?_
  rintro en w1 ⟨⟨k, d, e, s, i, b, hok, rfl⟩, hw⟩
  have HW1 := Lib.hid hw
  have HOK := Lib.hid hok
  have hbs : b.size ≤ 40 := by have := hok.bounds; omega
  clear hw hok
  go_wp2_with fail
  refine (specPut_any k d e s i b _ (by unfold maxLen; omega)).mono ?_
  rintro en w2 ⟨rfl, hb2⟩
  have HW2 := Lib.hid (HW1.out.step HBL.out hb2)
  clear hb2 HW1
  obtain ⟨P, hP⟩ : ∃ P : ByteArray, P = ⟨(putF k d e s i b.data.toList).toArray⟩ := ⟨_, rfl⟩
  have hps : P.size = 11 + b.size := put_size HOK.out (by rw [hP]; exact put_text HOK.out)
  rw [← hP]
  clear hP
  obtain ⟨m, hm⟩ : ∃ m : Nat, P.size = m + 2 := ⟨P.size - 2, by omega⟩
  have hm9 : 9 ≤ m := by omega
  have hm1 : m ≤ 49 := by omega
  have HPM := Lib.hid hm
  have hwm : IntKind.i64.wrap ((P.size : Int) - 2) = (m : Int) := by rw [hm]; rw [IntWalk.i64_in _ (by omega)]; omega
  clear hps hbs hm
  go_wp2_with fail
  refine (below_e _ cb B a len cap c HW2.out.dr 5 (by omega) (by omega)).mono ?_
  rintro en w3 ⟨⟨v, rfl, hv0, hv1⟩, hw⟩
  have HW3 := Lib.hid (HW2.out.trans hw)
  clear hw HW2
  rcases (show v = 0 ∨ v = 1 ∨ 2 ≤ v by omega) with rfl | rfl | hv
  · go_wp2_with fail
    refine (bent_e _ cb B a len cap c HW3.out.dr P (by have := HPM.out; omega)).mono ?_
    rintro en w4 ⟨⟨t, ht, rfl⟩, hw⟩
    have HW4 := Lib.hid (HW3.out.trans hw)
    clear hw HW3
    go_wp2_with fail
    go_ret
    exact ⟨⟨t, by have := HPM.out; omega, rfl⟩, HW4.out⟩
  · obtain ⟨X, hxs, hxr⟩ := cut_to P m (by have := HPM.out; omega)
    have hcv := fun w => run_bytes_of_string (P := Tryd.prog) w 9 22 5 X Tryd.underlying9 Tryd.underlying22 Tryd.underlying5
    obtain ⟨l, hl⟩ : ∃ l, l = X.data.toList := ⟨_, rfl⟩
    have hll : l.length = m := by rw [hl, len_size, hxs]
    have HLX := Lib.hid hl
    clear hl
    go_wp2_with fail
    obtain ⟨cp, hcp⟩ : ∃ cp, cp = grownCap w3 m 0 5 := ⟨_, rfl⟩
    rw [← hcp]
    clear hcp hcv hxr
    have HR4 := Lib.hid (show BRow (w3.alloc (.cells (bytesRow X cp) 5 ((bytesRow X cp).size, (bytesRow X cp).size + 1))).drew w3.heap.size l by rw [HLX.out]; exact brow_new w3 X 5 cp _)
    have HW4 := Lib.hid (show WntE B w (w3.alloc (.cells (bytesRow X cp) 5 ((bytesRow X cp).size, (bytesRow X cp).size + 1))).drew cb a len cap c from (HW3.out.alloc _).drew)
    have HG := Lib.hid (show w.heap.size ≤ w3.heap.size from HW3.out.grown.size)
    have HNE := Lib.hid (show w3.heap.size ≠ cb by have := HW3.out.dr.lt; omega)
    obtain ⟨w4, hw4⟩ : ∃ w4, w4 = (w3.alloc (.cells (bytesRow X cp) 5 ((bytesRow X cp).size, (bytesRow X cp).size + 1))).drew := ⟨_, rfl⟩
    rw [← hw4] at HR4 HW4 ⊢
    obtain ⟨g, hg⟩ : ∃ g, g = w3.heap.size := ⟨_, rfl⟩
    rw [← hg] at HR4 HG HNE ⊢
    clear hw4 hg HW3
    refine (below_e _ cb B a len cap c HW4.out.dr m (by omega) (by omega)).mono ?_
    rintro en w5 ⟨⟨J, rfl, hJ0, hJ1⟩, hw⟩
    have HW5 := Lib.hid (HW4.out.trans hw)
    have HR5 := Lib.hid (brow_grown HR4.out hw.grown HNE.out)
    clear hw HW4 HR4
    obtain ⟨J, rfl⟩ := Int.eq_ofNat_of_zero_le hJ0
    have hJm : J < m := by omega
    have hJl : J < l.length := by omega
    clear hJ0 hJ1
    have HX6 := Lib.hid (HW5.out.alloc (.cells #[.int .i64 0, .int .i64 1, .int .i64 2, .int .i64 5, .int .i64 7, .int .i64 255] 3))
    have HR6 := Lib.hid (brow_low HR5.out (bOne w5 (.cells #[.int .i64 0, .int .i64 1, .int .i64 2, .int .i64 5, .int .i64 7, .int .i64 255] 3)))
    go_wp2_with fail
    refine (pickInt_e _ cb B a len cap c HX6.out.dr w5.heap.size 6 (fun z => 0 ≤ z ∧ z < 256) (nums_b w5) (by have := HW5.out.dr.lt; omega) (by simp) (by omega) (by omega)).mono ?_
    rintro en w7 ⟨⟨z, rfl, hz0, hz1⟩, hw⟩
    have HW7 := Lib.hid (HX6.out.trans hw)
    have HR7 := Lib.hid (brow_grown HR6.out hw.grown HNE.out)
    clear hw HW5 HR5 HX6 HR6
    have hcell := HR7.out.cell J hJl
    have hfr := HR7.out.frozen J hJl
    have hwz : z % 256 = z := by omega
    obtain ⟨U, hU⟩ : ∃ U : UInt8, U = UInt8.ofNat z.toNat := ⟨_, rfl⟩
    have hUR : (U.toNat : Int) = z := by
      have : (UInt8.ofNat z.toNat).toNat = z.toNat := by simp; omega
      rw [hU, this]; omega
    have HR8 := Lib.hid (HR7.out.set J hJl U z hUR.symm)
    have HW8 := Lib.hid (HW7.out.set (Nat.le_trans HBL.out HG.out) HG.out HNE.out J (.int .u8 z))
    clear hU hUR
    obtain ⟨w8, hw8⟩ : ∃ w8, w8 = w7.setCell ⟨g, J, none⟩ (.int .u8 z) := ⟨_, rfl⟩
    go_upto_region 8 with fail
    rw [← hw8] at HR8 HW8 ⊢
    clear hw8 hcell hfr HR7 HW7 hwz
    obtain ⟨l2, hl2⟩ : ∃ l2, l2 = l.set J U := ⟨_, rfl⟩
    have hll2 : m = l2.length := by rw [hl2, List.length_set, hll]
    rw [← hl2] at HR8
    clear hl2 HLX hll hJl
    obtain ⟨T, hT⟩ : ∃ T : ByteArray, T = ⟨l2.toArray⟩ := ⟨_, rfl⟩
    have hTs : T.size = m := by rw [hT, size_lit, hll2]
    obtain ⟨ck, hck⟩ : ∃ ck, ck = ckVal T.data.toList := ⟨_, rfl⟩
    have hckb := ckVal_bd T.data.toList
    rw [← hck] at hckb
    obtain ⟨Q, hQ⟩ : ∃ Q : ByteArray, Q = ⟨(putVal ck 2).toArray⟩ := ⟨_, rfl⟩
    have hQs : Q.size ≤ 4 := by rw [hQ, size_lit]; exact putVal_le ck 2
    have HCH := Lib.hid (show ∀ w', Calls Tryd.prog 26 #[.string T] w' fun e w'' => e = .returned (.int .i64 ck) ∧ w' = w'' from fun w' => by rw [hck]; exact specCheck_any T w' (by rw [hTs]; unfold maxLen; omega))
    have HPN := Lib.hid (show ∀ w', Calls Tryd.prog 43 #[.int .i64 ck, .int .i64 2] w' fun e w'' => e = .returned (.string Q) ∧ Below w'.heap.size w' w'' from fun w' => by rw [hQ]; exact specPutNum_any ck 2 w' (wf_of (by omega) (by omega)))
    have hcv : ∀ wx, BRow wx g l2 → (convert 22 9 (.slice (some ⟨g, 0, none⟩) m cp)).run Tryd.prog wx = .ok (.string T) wx := fun wx h => by rw [hT]; exact back_row2 22 9 5 Tryd.underlying22 Tryd.underlying5 Tryd.underlying9 h m cp hll2
    obtain ⟨r, hr, hrs⟩ : ∃ r : ByteArray, (∀ wx, (Op.stringOp .add T Q).run Tryd.prog wx = .ok (.string r) wx) ∧ r.size = T.size + Q.size := ⟨T ++ Q, fun wx => run_string_add_sum wx T Q (by omega), by rw [ByteArray.size_append]⟩
    have hrl : r.size ≤ 100 := by omega
    clear hT hck hckb hQ hrs hQs hTs hll2
    go_region_held3 (fun w' => BRow w' g l2 ∧ WntE B w w' cb a len cap c)
      (first
        | exact ⟨HR8.out, HW8.out.drew⟩
        | (with_reducible assumption)
        | (with_reducible exact HS.out))
      (first
        | (go_at_call 26; (with_reducible refine (HCH.out _).mono ?_); rintro en w' ⟨rfl, rfl⟩)
        | (go_at_call 43; (with_reducible refine (HPN.out _).mono ?_); rintro en w' ⟨rfl, hbx⟩; have HS := Lib.hid (And.intro (brow_low (‹BRow _ g l2 ∧ WntE B w _ cb a len cap c›).1 hbx) (WntE.low (‹BRow _ g l2 ∧ WntE B w _ cb a len cap c›).2 HBL.out hbx)); clear hbx))
    all_goals
      go_wp2_with fail
      go_ret
      exact ⟨⟨r, hrl, rfl⟩, HS.out.2⟩
  · have hb0 : (v == 0) = false := by simpa using (show ¬ v = 0 by omega)
    have hb1 : (v == 1) = false := by simpa using (show ¬ v = 1 by omega)
    go_wp2_with fail
    go_ret
    exact ⟨⟨P, by have := HPM.out; omega, rfl⟩, HW3.out⟩

set_option maxRecDepth 100000 in
theorem drawGet_e (w : World) (a : Option Addr) (len cap : Nat) (c : Nat → Int) (hcode : CodeIs w.heap.size w a len cap c) (hlen : len ≤ 1048576) :
    Calls Tryd.prog 6 #[.slice a len cap] w fun en w' => (∃ t : ByteArray, t.size ≤ 100 ∧ en = .returned (.string t)) ∧ Below w.heap.size w w' := by
  have HC := Lib.hid hcode
  have HLEN := Lib.hid hlen
  clear hcode hlen
  go_enter Tryd.func6, Tryd.ntmps6
  go_wp2_with fail
  refine (Drw.new_x _ w.heap.size a len cap c HC.out (Nat.le_refl _)).mono ?_
  rintro en w1 ⟨rfl, hd, hb1⟩
  have HL1 := Lib.hid hb1
  have HD := Lib.hid (show DrwE w.heap.size w1 w.heap.size a len cap c from ⟨_, hd⟩)
  clear hd hb1
  obtain ⟨cb, hcb⟩ : ∃ cb, cb = w.heap.size := ⟨_, rfl⟩
  have HD := Lib.hid (show DrwE w.heap.size w1 cb a len cap c by rw [hcb]; exact HD.out)
  rw [← hcb]
  clear hcb
  go_wp2_with fail
  refine (once_e _ cb w.heap.size a len cap c HD.out 8 (by omega) (by omega)).mono ?_
  rintro en w2 ⟨⟨o, rfl⟩, hw⟩
  have HW2 := Lib.hid hw
  clear hw
  cases o
  · go_wp2_with fail
    refine (bytes_e _ cb w.heap.size a len cap c HW2.out.dr HLEN.out (Nat.le_trans HL1.out.size HW2.out.grown.size)).mono ?_
    rintro en w3 ⟨⟨t, ht, rfl⟩, hw⟩
    have HW3 := Lib.hid (HW2.out.trans hw)
    clear hw
    go_wp2_with fail
    go_ret
    exact ⟨⟨t, ht, rfl⟩, HL1.out.trans (HW3.out.below HL1.out.size)⟩
  · go_wp2_with fail
    refine (below_e _ cb w.heap.size a len cap c HW2.out.dr 14 (by omega) (by omega)).mono ?_
    rintro en w3 ⟨⟨n, rfl, hn0, hn1⟩, hw⟩
    have HW3 := Lib.hid (HW2.out.trans hw)
    clear hw
    obtain ⟨n, rfl⟩ := Int.eq_ofNat_of_zero_le hn0
    go_wp2_with fail
    refine (text_e _ cb w.heap.size a len cap c HW3.out.dr HLEN.out n (by omega)).mono ?_
    rintro en w4 ⟨⟨t, ht, rfl⟩, hw⟩
    have HW4 := Lib.hid (HW3.out.trans hw)
    clear hw
    go_wp2_with fail
    go_ret
    exact ⟨⟨t, by omega, rfl⟩, HL1.out.trans (HW4.out.below HL1.out.size)⟩
end Go.Proofs.YtgbdmpfojiihnaaDoor.Fdw
