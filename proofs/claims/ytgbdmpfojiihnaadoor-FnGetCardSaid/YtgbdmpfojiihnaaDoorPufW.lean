/-
  The walk of the program's PutFrame, and of the law FnExactPutFrame.
-/
import Derived.Test.YtgbdmpfojiihnaaDoorFwrW
import Derived.Test.YtgbdmpfojiihnaaDoorPufS
namespace Go.Proofs.YtgbdmpfojiihnaaDoor.Frm
open Go.RowKit Go.Proofs.YtgbdmpfojiihnaaDoor.Num Go.Proofs.YtgbdmpfojiihnaaDoor.Kit
set_option linter.unusedVariables false

set_option maxRecDepth 100000 in
set_option maxHeartbeats 1000000 in
theorem implPut_yes (k d e s i : Int) (b : ByteArray) (w : World) (hb : b.size ≤ maxLen) (h : FOk k d e s i b.size) :
    Calls Tryd.prog 15 #[.agg #[.int .i64 k, .int .i64 d, .int .i64 e, .int .i64 s, .int .i64 i, .string b]] w fun en w' => en = .returned (.string ⟨(frBytes k d e s i b.data.toList).toArray⟩) ∧ Below w.heap.size w w' := by
  obtain ⟨h1, h2, h3, h4, h5, h6, h7, h8, h9, h10, h11⟩ := h.bounds
  have hlen := bytes_len b
  have HOK := Lib.hid h
  have HB0 := Lib.hid (show (w.alloc (.cells #[.int .i64 k, .int .i64 d, .int .i64 e, .int .i64 s, .int .i64 i, .string b] 26)).heap[w.heap.size]? = some (.cells #[.int .i64 k, .int .i64 d, .int .i64 e, .int .i64 s, .int .i64 i, .string b] 26 (0, 0)) from heap_alloc_new w _)
  have hl4 : (fourB d e s i).length = 7 := by
    unfold fourB
    simp only [List.length_append]
    rw [putVal_len h3 (by omega) (by omega), putVal_len h5 (by omega) (by omega), putVal_len h7 (by omega) (by omega), putVal_len h9 (by omega) (by omega)]
    rfl
  have hl1 := putVal_le k 1
  have hl6 := putVal_le (b.size : Int) 1
  have hbd : (b.size : Int) ≤ 40 := by omega
  obtain ⟨hd, hhd⟩ : ∃ hd, hd = head k d e s i b.data.toList := ⟨_, rfl⟩
  have HHD := Lib.hid (show ([] ++ putVal k 1) ++ fourB d e s i ++ putVal (b.size : Int) 1 ++ b.data.toList = hd by rw [hhd, head, fourB, hlen]; simp)
  have HFR := Lib.hid (show hd ++ putVal (ckVal hd) 2 = frBytes k d e s i b.data.toList by rw [hhd, frBytes])
  have hhl := head_len (b := b.data.toList) (by rw [hlen]; exact h)
  rw [← hhd] at hhl
  have hck := ckVal_bd hd
  have hdlen : (⟨hd.toArray⟩ : ByteArray).size ≤ maxLen := by show hd.toArray.size ≤ _; simp [maxLen]; omega
  have HCK := Lib.hid (fun w' => check_any ⟨hd.toArray⟩ w' hdlen)
  clear h hhd hdlen
  go_enter Tryd.func15, Tryd.ntmps15
  go_wp2_with fail
  refine (implOk_any k d e s i b _ hb).mono ?_
  rintro en w1 ⟨rfl, hb1⟩
  rw [fokB_yes HOK.out]
  have HL1 := Lib.hid (bAfter (bOne w _) hb1 (by simp))
  have HH1 := Lib.hid ((hb1.block _ (by simp)).trans HB0.out)
  have HNE := Lib.hid (show w.heap.size ≠ w1.heap.size by have := hb1.size; simp at this; omega)
  clear hb1 HB0
  have HW1 := Lib.hid (Wr.new w1)
  have HH1a := Lib.hid (((bOne w1 (.cells #[.slice none 0 0] 51)).block _ (at_lt HH1.out)).trans HH1.out)
  have HC1 := Lib.hid (B6.at HH1a.out)
  obtain ⟨c0, c1, c2, c3, c4, c5, hlt⟩ := HC1.out
  go_wp2_with fail
  refine (number_any w1 _ _ [] k 1 HW1.out (by simp) (wf_of (by omega) (by omega))).mono ?_
  rintro en w2 ⟨rfl, ⟨v2, h2⟩, s2⟩
  have HH2 := Lib.hid (s2 _ _ _ _ HH1a.out (by decide) HNE.out)
  have HW2 := Lib.hid h2
  have HC2 := Lib.hid (B6.at HH2.out)
  clear h2 s2 HW1 HH1a HC1 c0 c1 c2 c3 c4 c5 hlt
  obtain ⟨c0, c1, c2, c3, c4, c5, hlt⟩ := HC2.out
  have hmf : ∀ (fn : Fn) (first cap : Array Value) (w : World), (Instr.makeFunc fn first cap).run Tryd.prog w = .ok (.func fn first cap) w := fun _ _ _ _ => rfl
  go_wp2_with fail
  refine (tell_any w1 _ v2 _ k d e s i b HW2.out (by simp; omega) (wf_of (by omega) (by omega)) (wf_of (by omega) (by omega)) (wf_of (by omega) (by omega)) (wf_of (by omega) (by omega))).mono ?_
  rintro en w3 ⟨rfl, ⟨v3, h3'⟩, s3⟩
  have HH3 := Lib.hid (s3 _ _ _ _ HH2.out (by decide) HNE.out)
  have HW3 := Lib.hid h3'
  have HC3 := Lib.hid (B6.at HH3.out)
  clear h3' s3 HH2 HW2 HC2 c0 c1 c2 c3 c4 c5 hlt hmf
  obtain ⟨c0, c1, c2, c3, c4, c5, hlt⟩ := HC3.out
  go_wp2_with fail
  refine (number_any w1 _ v3 _ (b.size : Int) 1 HW3.out (by simp only [List.length_append, List.length_nil]; omega) (wf_of (by omega) (by omega))).mono ?_
  rintro en w4 ⟨rfl, ⟨v4, h4'⟩, s4⟩
  have HH4 := Lib.hid (s4 _ _ _ _ HH3.out (by decide) HNE.out)
  have HW4 := Lib.hid h4'
  have HC4 := Lib.hid (B6.at HH4.out)
  clear h4' s4 HH3 HW3 HC3 c0 c1 c2 c3 c4 c5 hlt
  obtain ⟨c0, c1, c2, c3, c4, c5, hlt⟩ := HC4.out
  go_wp2_with fail
  refine (text_any w1 _ v4 _ b HW4.out (by simp only [List.length_append, List.length_nil]; omega)).mono ?_
  rintro en w5 ⟨rfl, ⟨v5, h5'⟩, s5⟩
  rw [HHD.out] at h5'
  have HW5 := Lib.hid h5'
  clear h5' s5 HH4 HW4 HC4 c0 c1 c2 c3 c4 c5 hlt
  have hcv := convert_row (P := Tryd.prog) (l := hd) 22 9 5 Tryd.underlying22 Tryd.underlying5 Tryd.underlying9 HW5.out.own
  have hcl := HW5.out.cell
  go_wp2_with fail
  refine (HCK.out _).mono ?_
  rintro en w6 ⟨rfl, rfl⟩
  clear hcv hcl
  go_wp2_with fail
  refine (number_any w1 _ v5 _ (ckVal hd) 2 HW5.out (by omega) (wf_of (by omega) (by omega))).mono ?_
  rintro en w7 ⟨rfl, ⟨v7, h7'⟩, s7⟩
  rw [HFR.out] at h7'
  have HW7 := Lib.hid h7'
  clear h7' s7 HW5
  have hcv := convert_row (P := Tryd.prog) (l := frBytes k d e s i b.data.toList) 22 9 5 Tryd.underlying22 Tryd.underlying5 Tryd.underlying9 HW7.out.own
  have hcl := HW7.out.cell
  go_wp2_with fail
  go_ret
  exact ⟨rfl, bAfter HL1.out HW7.out.bel HL1.out.size⟩

theorem implPut_any (k d e s i : Int) (b : ByteArray) (w : World) (hb : b.size ≤ maxLen) :
    Calls Tryd.prog 15 #[.agg #[.int .i64 k, .int .i64 d, .int .i64 e, .int .i64 s, .int .i64 i, .string b]] w fun en w' => en = .returned (.string ⟨(putF k d e s i b.data.toList).toArray⟩) ∧ Below w.heap.size w w' := by
  have hlen := bytes_len b
  by_cases h : FOk k d e s i b.size
  · rw [putF_yes (by rw [hlen]; exact h)]
    exact implPut_yes k d e s i b w hb h
  · rw [putF_no (by rw [hlen]; exact h)]
    clear hlen
    go_enter Tryd.func15, Tryd.ntmps15
    go_wp2_with fail
    refine (implOk_any k d e s i b _ hb).mono ?_
    rintro en w1 ⟨rfl, hb1⟩
    rw [fokB_no h]
    go_wp2_with fail
    go_ret
    exact ⟨rfl, bAfter (bOne w _) hb1 (by simp)⟩

end Go.Proofs.YtgbdmpfojiihnaaDoor.Frm
