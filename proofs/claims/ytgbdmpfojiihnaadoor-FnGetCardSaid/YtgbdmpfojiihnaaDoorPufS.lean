/-
  The walk of the specification's PutFrame.
-/
import Derived.Test.YtgbdmpfojiihnaaDoorFrxW
import Derived.Test.YtgbdmpfojiihnaaDoorPutW
import Derived.Test.YtgbdmpfojiihnaaDoorCheckW
import Derived.Deep.RegionHeld3
import Derived.Laws.Concat
namespace Go.Proofs.YtgbdmpfojiihnaaDoor.Frm
open Go.RowKit Go.Proofs.YtgbdmpfojiihnaaDoor.Num
set_option linter.unusedVariables false

theorem wf_of {n : Int} (h0 : -9223372036854775808 ≤ n) (h1 : n ≤ 9223372036854775807) : (Lit.int .i64 n).wf = true := by
  simp [Lit.wf, IntKind.min, IntKind.max, IntKind.signed, IntKind.bits]
  omega
theorem str_lists (b : ByteArray) : b = ⟨b.data.toList.toArray⟩ := by simp
theorem cat_lists (x y : List UInt8) (h : x.length + y.length ≤ 9223372036854775807) (w : World) : (Op.stringOp .add ⟨x.toArray⟩ ⟨y.toArray⟩).run Tryd.prog w = .ok (.string ⟨(x ++ y).toArray⟩) w := by
  rw [run_string_add_sum w _ _ (by show x.toArray.size + y.toArray.size ≤ _; simpa using h)]
  congr 2
theorem low_drew {V W : World} (h : Below W.heap.size W V) : Below W.heap.size W V.drew := ⟨h.os, h.tape, h.output, h.size, h.block⟩
theorem low_alloc {W w : World} (h : Below W.heap.size W w) (o : Obj) : Below W.heap.size W (w.alloc o) := h.alloc h.size _
theorem low_after {W w w1 : World} (h : Below W.heap.size W w) (h2 : Below w.heap.size w w1) : Below W.heap.size W w1 := bAfter h h2 h.size
/-- what a region that loads a frame's box holds -/
def Six (W : World) (a : Nat) (k d e s i : Int) (b : ByteArray) (w' : World) : Prop :=
  w'.cell? ⟨a, 0, none⟩ = some (.int .i64 k) ∧ w'.cell? ⟨a, 1, none⟩ = some (.int .i64 d) ∧ w'.cell? ⟨a, 2, none⟩ = some (.int .i64 e) ∧ w'.cell? ⟨a, 3, none⟩ = some (.int .i64 s) ∧ w'.cell? ⟨a, 4, none⟩ = some (.int .i64 i) ∧ w'.cell? ⟨a, 5, none⟩ = some (.string b) ∧ Below W.heap.size W w'
theorem six_of {W : World} {a : Nat} {k d e s i : Int} {b : ByteArray} (h : B6 W a k d e s i b) (w' : World) (hb : Below W.heap.size W w') : Six W a k d e s i b w' :=
  let g := h.below hb
  ⟨g.c0, g.c1, g.c2, g.c3, g.c4, g.c5, hb⟩

set_option maxRecDepth 100000 in
set_option maxHeartbeats 2000000 in
theorem specPut_yes (k d e s i : Int) (b : ByteArray) (w : World) (hb : b.size ≤ maxLen) (h : FOk k d e s i b.size) :
    Calls Tryd.prog 27 #[.agg #[.int .i64 k, .int .i64 d, .int .i64 e, .int .i64 s, .int .i64 i, .string b]] w fun en w' => en = .returned (.string ⟨(frBytes k d e s i b.data.toList).toArray⟩) ∧ Below w.heap.size w w' := by
  obtain ⟨h1, h2, h3, h4, h5, h6, h7, h8, h9, h10, h11⟩ := h.bounds
  have hlen := bytes_len b
  have HB0 := Lib.hid (B6.new w k d e s i b 26)
  have l1 : (putVal k 1).length = 1 := putVal_len h1 (by omega) (by omega)
  have l2 : (putVal d 1).length = 1 := putVal_len h3 (by omega) (by omega)
  have l3 : (putVal e 2).length = 2 := putVal_len h5 (by omega) (by omega)
  have l4 : (putVal s 2).length = 2 := putVal_len h7 (by omega) (by omega)
  have l5 : (putVal i 2).length = 2 := putVal_len h9 (by omega) (by omega)
  have l6 : (putVal (b.size : Int) 1).length = 1 := putVal_len (by omega) (by omega) (by omega)
  obtain ⟨q1, hq1⟩ : ∃ q, q = putVal k 1 ++ putVal d 1 := ⟨_, rfl⟩
  obtain ⟨q2, hq2⟩ : ∃ q, q = q1 ++ putVal e 2 := ⟨_, rfl⟩
  obtain ⟨q3, hq3⟩ : ∃ q, q = q2 ++ putVal s 2 := ⟨_, rfl⟩
  obtain ⟨q4, hq4⟩ : ∃ q, q = q3 ++ putVal i 2 := ⟨_, rfl⟩
  obtain ⟨q5, hq5⟩ : ∃ q, q = q4 ++ putVal (b.size : Int) 1 := ⟨_, rfl⟩
  have m1 : q1.length = 2 := by rw [hq1, List.length_append]; omega
  have m2 : q2.length = 4 := by rw [hq2, List.length_append]; omega
  have m3 : q3.length = 6 := by rw [hq3, List.length_append]; omega
  have m4 : q4.length = 8 := by rw [hq4, List.length_append]; omega
  have m5 : q5.length = 9 := by rw [hq5, List.length_append]; omega
  have ha1 := cat_lists (putVal k 1) (putVal d 1) (by omega)
  have ha2 := cat_lists q1 (putVal e 2) (by omega)
  have ha3 := cat_lists q2 (putVal s 2) (by omega)
  have ha4 := cat_lists q3 (putVal i 2) (by omega)
  have ha5 := cat_lists q4 (putVal (b.size : Int) 1) (by omega)
  have ha6 := cat_lists q5 b.data.toList (by omega)
  rw [← str_lists b] at ha6
  have hhd : q5 ++ b.data.toList = head k d e s i b.data.toList := by rw [head, hlen, hq5, hq4, hq3, hq2, hq1]
  rw [← hq1] at ha1
  rw [← hq2] at ha2
  rw [← hq3] at ha3
  rw [← hq4] at ha4
  rw [← hq5] at ha5
  rw [hhd] at ha6
  have hhl := head_len (b := b.data.toList) (by rw [hlen]; exact h)
  obtain ⟨hd, hhd2⟩ : ∃ hd, hd = head k d e s i b.data.toList := ⟨_, rfl⟩
  have HFR := Lib.hid (show frBytes k d e s i b.data.toList = hd ++ putVal (ckVal hd) 2 by rw [hhd2, frBytes])
  rw [← hhd2] at ha6 hhl
  have hck := ckVal_bd hd
  have l7 : (putVal (ckVal hd) 2).length = 2 := putVal_len hck.1 (by omega) (by omega)
  have ha7 := cat_lists hd (putVal (ckVal hd) 2) (by omega)
  rw [← HFR.out] at ha7
  have hdlen : (⟨hd.toArray⟩ : ByteArray).size ≤ maxLen := by show hd.toArray.size ≤ _; simp [maxLen]; omega
  have HCK := Lib.hid (fun w' => specCheck_any ⟨hd.toArray⟩ w' hdlen)
  have hbd : (b.size : Int) ≤ 40 := by omega
  have HOK := Lib.hid h
  clear hhd hhd2 hq1 hq2 hq3 hq4 hq5 m1 m2 m3 m4 m5 l1 l2 l3 l4 l5 l6 l7 h hdlen
  go_enter Tryd.func27, Tryd.ntmps27
  go_wp2_with fail
  refine (specOk_any k d e s i b _ hb).mono ?_
  rintro en w1 ⟨rfl, hb1⟩
  rw [fokB_yes HOK.out]
  have HL1 := Lib.hid (bAfter (bOne w _) hb1 (by simp))
  have HB1 := Lib.hid (HB0.out.below hb1)
  clear hb1 HB0
  obtain ⟨c0, c1, c2, c3, c4, c5, hlt⟩ := HB1.out
  go_wp2_with fail
  have HKS := Lib.hid (six_of HB1.out)
  have HD := Lib.hid (show Below w1.heap.size w1 w1.drew from low_drew (Below.refl _ _))
  go_region_held3 (fun w' => w'.cell? ⟨w.heap.size, 0, none⟩ = some (.int .i64 k) ∧ w'.cell? ⟨w.heap.size, 1, none⟩ = some (.int .i64 d) ∧ w'.cell? ⟨w.heap.size, 2, none⟩ = some (.int .i64 e) ∧ w'.cell? ⟨w.heap.size, 3, none⟩ = some (.int .i64 s) ∧ w'.cell? ⟨w.heap.size, 4, none⟩ = some (.int .i64 i) ∧ w'.cell? ⟨w.heap.size, 5, none⟩ = some (.string b) ∧ Below w1.heap.size w1 w')
    (first
      | exact HKS.out _ HD.out
      | exact HKS.out _ HL.out)
    (first
      | (go_at_call 43; (with_reducible refine (specPutNum_any k 1 _ (wf_of (by omega) (by omega))).mono ?_); rintro en w' ⟨rfl, hbx⟩; have HL := Lib.hid (low_after ((‹_ ∧ _ ∧ _ ∧ _ ∧ _ ∧ _ ∧ Below w1.heap.size w1 _›).2.2.2.2.2.2) hbx))
      | (go_at_call 43; (with_reducible refine (specPutNum_any d 1 _ (wf_of (by omega) (by omega))).mono ?_); rintro en w' ⟨rfl, hbx⟩; have HL := Lib.hid (low_after ((‹_ ∧ _ ∧ _ ∧ _ ∧ _ ∧ _ ∧ Below w1.heap.size w1 _›).2.2.2.2.2.2) hbx))
      | (go_at_call 43; (with_reducible refine (specPutNum_any e 2 _ (wf_of (by omega) (by omega))).mono ?_); rintro en w' ⟨rfl, hbx⟩; have HL := Lib.hid (low_after ((‹_ ∧ _ ∧ _ ∧ _ ∧ _ ∧ _ ∧ Below w1.heap.size w1 _›).2.2.2.2.2.2) hbx))
      | (go_at_call 43; (with_reducible refine (specPutNum_any s 2 _ (wf_of (by omega) (by omega))).mono ?_); rintro en w' ⟨rfl, hbx⟩; have HL := Lib.hid (low_after ((‹_ ∧ _ ∧ _ ∧ _ ∧ _ ∧ _ ∧ Below w1.heap.size w1 _›).2.2.2.2.2.2) hbx))
      | (go_at_call 43; (with_reducible refine (specPutNum_any i 2 _ (wf_of (by omega) (by omega))).mono ?_); rintro en w' ⟨rfl, hbx⟩; have HL := Lib.hid (low_after ((‹_ ∧ _ ∧ _ ∧ _ ∧ _ ∧ _ ∧ Below w1.heap.size w1 _›).2.2.2.2.2.2) hbx))
      | (go_at_call 43; (with_reducible refine (specPutNum_any (b.size : Int) 1 _ (wf_of (by omega) (by omega))).mono ?_); rintro en w' ⟨rfl, hbx⟩; have HL := Lib.hid (low_after ((‹_ ∧ _ ∧ _ ∧ _ ∧ _ ∧ _ ∧ Below w1.heap.size w1 _›).2.2.2.2.2.2) hbx)))
  have HL8 := Lib.hid (bAfter HL1.out HL.out HL1.out.size)
  clear HKS HD HB1 HL1 HL c0 c1 c2 c3 c4 c5 hlt
  go_wp2_with fail
  refine (HCK.out _).mono ?_
  rintro en w9 ⟨rfl, rfl⟩
  go_wp2_with fail
  refine (specPutNum_any (ckVal hd) 2 _ (wf_of (by omega) (by omega))).mono ?_
  rintro en w10 ⟨rfl, hb10⟩
  go_wp2_with fail
  go_ret
  exact ⟨rfl, bAfter HL8.out hb10 HL8.out.size⟩

theorem specPut_any (k d e s i : Int) (b : ByteArray) (w : World) (hb : b.size ≤ maxLen) :
    Calls Tryd.prog 27 #[.agg #[.int .i64 k, .int .i64 d, .int .i64 e, .int .i64 s, .int .i64 i, .string b]] w fun en w' => en = .returned (.string ⟨(putF k d e s i b.data.toList).toArray⟩) ∧ Below w.heap.size w w' := by
  have hlen := bytes_len b
  by_cases h : FOk k d e s i b.size
  · rw [putF_yes (by rw [hlen]; exact h)]
    exact specPut_yes k d e s i b w hb h
  · rw [putF_no (by rw [hlen]; exact h)]
    clear hlen
    go_enter Tryd.func27, Tryd.ntmps27
    go_wp2_with fail
    refine (specOk_any k d e s i b _ hb).mono ?_
    rintro en w1 ⟨rfl, hb1⟩
    rw [fokB_no h]
    go_wp2_with fail
    go_ret
    exact ⟨rfl, bAfter (bOne w _) hb1 (by simp)⟩
end Go.Proofs.YtgbdmpfojiihnaaDoor.Frm
