/-
  What a frame says in words: the program's FrameText. Condition: the library's table of powers of ten.
-/
import Derived.Test.YtgbdmpfojiihnaaDoorFwrW
import Derived.Test.YtgbdmpfojiihnaaDoorPufS
import Derived.Test.YtgbdmpfojiihnaaDoorTextW
import Derived.WalkSmall
import Derived.Lib.LaidTab
import Derived.Lib.ItoaLen
namespace Go.Proofs.YtgbdmpfojiihnaaDoor.Frm
open Go.RowKit Go.Proofs.YtgbdmpfojiihnaaDoor.Num Go.Proofs.YtgbdmpfojiihnaaDoor.Kit
set_option linter.unusedVariables false

/-- the table of powers of ten, and where it lies -/
def Tab (w : World) : Prop := Lib.TabIs Tryd.prog w "internal/strconv.uint64pow10" .u64 Lib.pow10Tab ∧ 0 < w.heap.size
theorem gPow0 : Tryd.prog.globalNamed "internal/strconv.uint64pow10" = some 0 := by kernel_rfl
theorem Tab.of {w : World} (h : Lib.TabIs Tryd.prog w "internal/strconv.uint64pow10" .u64 Lib.pow10Tab) : Tab w :=
  ⟨h, World.block_lt_of_cell? w _ (h.cell gPow0 0 (by simp [Lib.pow10Tab]))⟩
theorem Tab.below {w w' : World} {B : Nat} (h : Tab w) (hB : w.heap.size ≤ B) (hb : Below B w w') : Tab w' :=
  ⟨var?_below (hb.mono hB) gPow0 h.2 h.1, Nat.lt_of_lt_of_le h.2 hb.size⟩
/-- a number with a blank ahead -/
def blk (n : Int) : List UInt8 := 32 :: Lib.itoa n
theorem blk_le (n : Int) (wn : (Lit.int .i64 n).wf = true) : (blk n).length ≤ 22 := by
  obtain ⟨h0, h1⟩ := Dec.i64_bounds wn
  have := Lib.itoa_length_le n h0 h1
  simp [blk]
  omega
/-- the four numbers of a frame in words -/
def fourT (d e s i : Int) : List UInt8 := blk d ++ blk e ++ blk s ++ blk i
/-- a kind's name -/
def kn (k : Int) : List UInt8 := if k = 1 then [115, 101, 110, 100] else if k = 2 then [97, 99, 107] else if k = 3 then [104, 101, 108, 108, 111] else if k = 4 then [110, 97, 99, 107] else []
theorem kn_le (k : Int) : (kn k).length ≤ 5 := by unfold kn; (repeat' split) <;> simp
def textF (k d e s i : Int) (n : Nat) : List UInt8 := if FOk k d e s i n then (if k = 1 then kn k ++ fourT d e s i ++ blk n else kn k ++ fourT d e s i) else []

theorem kindName_any (k : Int) (w : World) (h : k = 1 ∨ k = 2 ∨ k = 3 ∨ k = 4) :
    Calls Tryd.prog 30 #[.int .i64 k] w fun e w' => e = .returned (.string ⟨(kn k).toArray⟩) ∧ w = w' := by
  rcases h with rfl | rfl | rfl | rfl
  all_goals
    go_enter Tryd.func30, Tryd.ntmps30
    go_wp2
    go_ret
    exact ⟨rfl, rfl⟩

set_option maxRecDepth 100000 in
theorem decimal_any (w1 w : World) (v : Value) (l : List UInt8) (n b : Int) (h : Wr w1 w v l) (hn : l.length ≤ 100000) (wn : (Lit.int .i64 n).wf = true) (ht : Tab w1) :
    Calls Tryd.prog 32 #[.pointer (some ⟨w1.heap.size, 0, none⟩), .int .i64 n, .int .i64 b] w fun e w' => e = .returned (.tuple #[]) ∧ (∃ v', Wr w1 w' v' (l ++ blk n)) ∧ Stay w1 w w' := by
  have HW := Lib.hid h
  have HT := Lib.hid (ht.below (Nat.le_refl _) h.bel)
  obtain ⟨h0, h1⟩ := Dec.i64_bounds wn
  have hle := blk_le n wn
  obtain ⟨t, htx⟩ : ∃ t : ByteArray, t = ⟨(blk n).toArray⟩ := ⟨_, rfl⟩
  have HTX := Lib.hid (show t.data.toList = blk n by rw [htx])
  have hts : t.size ≤ 22 := by rw [htx]; show (blk n).toArray.size ≤ 22; simpa using hle
  have hadd : ∀ wx, (Op.stringOp .add ⟨#[32]⟩ ⟨(Lib.itoa n).toArray⟩).run Tryd.prog wx = .ok (.string t) wx := fun wx => by rw [htx]; exact cat_lists [32] (Lib.itoa n) (by have := hle; simp [blk] at this; simp; omega) wx
  clear h wn htx hle ht
  go_enter Tryd.func32, Tryd.ntmps32
  go_wp2_with fail
  refine (Dec.decText_any n _ h0 h1 HT.out.1).mono ?_
  rintro e w2 ⟨rfl, hb2⟩
  have HW2 := Lib.hid (HW.out.below hb2)
  have HS2 := Lib.hid (Stay.of_below (w1 := w1) hb2)
  go_wp2_with fail
  refine (text_any w1 _ v l t HW2.out (by omega)).mono ?_
  rintro e w3 ⟨rfl, ⟨v3, h3⟩, hs3⟩
  go_wp2_with fail
  go_end0
  exact ⟨rfl, ⟨v3, by rw [HTX.out] at h3; exact h3⟩, HS2.out.trans hs3⟩

set_option maxRecDepth 100000 in
theorem tellDec_any (w1 w : World) (v : Value) (l : List UInt8) (k d e s i : Int) (b : ByteArray) (h : Wr w1 w v l) (hn : l.length ≤ 1000) (ht : Tab w1) (wd : (Lit.int .i64 d).wf = true) (we : (Lit.int .i64 e).wf = true) (ws : (Lit.int .i64 s).wf = true) (wi : (Lit.int .i64 i).wf = true) :
    Calls Tryd.prog 31 #[.agg #[.int .i64 k, .int .i64 d, .int .i64 e, .int .i64 s, .int .i64 i, .string b], .func (.func 32) #[.pointer (some ⟨w1.heap.size, 0, none⟩)] #[]] w fun en w' => en = .returned (.tuple #[]) ∧ (∃ v', Wr w1 w' v' (l ++ fourT d e s i)) ∧ Stay w1 w w' := by
  have HB0 := Lib.hid (show (w.alloc (.cells #[.int .i64 k, .int .i64 d, .int .i64 e, .int .i64 s, .int .i64 i, .string b] 26)).heap[w.heap.size]? = some (.cells #[.int .i64 k, .int .i64 d, .int .i64 e, .int .i64 s, .int .i64 i, .string b] 26 (0, 0)) from heap_alloc_new w _)
  have HW := Lib.hid (h.below (bOne w (.cells #[.int .i64 k, .int .i64 d, .int .i64 e, .int .i64 s, .int .i64 i, .string b] 26)))
  have HS0 := Lib.hid (Stay.of_below (w1 := w1) (bOne w (.cells #[.int .i64 k, .int .i64 d, .int .i64 e, .int .i64 s, .int .i64 i, .string b] 26)))
  have HNE := Lib.hid (show w.heap.size ≠ w1.heap.size by have := h.lt; omega)
  have HWF := Lib.hid (And.intro wd (And.intro we (And.intro ws wi)))
  have hl1 := blk_le d wd
  have hl2 := blk_le e we
  have hl3 := blk_le s ws
  clear h wd we ws wi
  go_enter Tryd.func31, Tryd.ntmps31
  go_wp2_with fail
  refine (decimal_any w1 _ v l d 1 HW.out (by omega) HWF.out.1 ht).mono ?_
  rintro en w2 ⟨rfl, ⟨v2, h2⟩, s2⟩
  have HH2 := Lib.hid (s2 _ _ _ _ HB0.out (by decide) HNE.out)
  have HS2 := Lib.hid (HS0.out.trans s2)
  have HW2 := Lib.hid h2
  have HC2 := Lib.hid (B6.at HH2.out)
  clear h2 s2 HB0 HW HS0
  obtain ⟨c0, c1, c2, c3, c4, c5, hlt⟩ := HC2.out
  go_wp2_with fail
  refine (decimal_any w1 _ v2 _ e 2 HW2.out (by simp only [List.length_append]; omega) HWF.out.2.1 ht).mono ?_
  rintro en w3 ⟨rfl, ⟨v3, h3⟩, s3⟩
  have HH3 := Lib.hid (s3 _ _ _ _ HH2.out (by decide) HNE.out)
  have HS3 := Lib.hid (HS2.out.trans s3)
  have HW3 := Lib.hid h3
  have HC3 := Lib.hid (B6.at HH3.out)
  clear h3 s3 HH2 HW2 HS2 HC2 c0 c1 c2 c3 c4 c5 hlt
  obtain ⟨c0, c1, c2, c3, c4, c5, hlt⟩ := HC3.out
  go_wp2_with fail
  refine (decimal_any w1 _ v3 _ s 2 HW3.out (by simp only [List.length_append]; omega) HWF.out.2.2.1 ht).mono ?_
  rintro en w4 ⟨rfl, ⟨v4, h4⟩, s4⟩
  have HH4 := Lib.hid (s4 _ _ _ _ HH3.out (by decide) HNE.out)
  have HS4 := Lib.hid (HS3.out.trans s4)
  have HW4 := Lib.hid h4
  have HC4 := Lib.hid (B6.at HH4.out)
  clear h4 s4 HH3 HW3 HS3 HC3 c0 c1 c2 c3 c4 c5 hlt
  obtain ⟨c0, c1, c2, c3, c4, c5, hlt⟩ := HC4.out
  go_wp2_with fail
  refine (decimal_any w1 _ v4 _ i 2 HW4.out (by simp only [List.length_append]; omega) HWF.out.2.2.2 ht).mono ?_
  rintro en w5 ⟨rfl, ⟨v5, h5⟩, s5⟩
  have HS5 := Lib.hid (HS4.out.trans s5)
  have HW5 := Lib.hid h5
  clear h5 s5 HH4 HW4 HS4 HC4 c0 c1 c2 c3 c4 c5 hlt
  go_wp2_with fail
  go_end0
  exact ⟨rfl, ⟨v5, by have := HW5.out; simpa [fourT, List.append_assoc] using this⟩, HS5.out⟩
set_option maxRecDepth 100000 in
set_option maxHeartbeats 1000000 in
theorem implText_yes (k d e s i : Int) (b : ByteArray) (w : World) (hb : b.size ≤ maxLen) (h : FOk k d e s i b.size) (ht : Tab w) :
    Calls Tryd.prog 10 #[.agg #[.int .i64 k, .int .i64 d, .int .i64 e, .int .i64 s, .int .i64 i, .string b]] w fun en w' => en = .returned (.string ⟨(textF k d e s i b.size).toArray⟩) ∧ Below w.heap.size w w' := by
  obtain ⟨h1, h2, h3, h4, h5, h6, h7, h8, h9, h10, h11⟩ := h.bounds
  have hk1 : 1 ≤ k := by have := h; unfold FOk at this; omega
  have HOK := Lib.hid h
  have HB0 := Lib.hid (show (w.alloc (.cells #[.int .i64 k, .int .i64 d, .int .i64 e, .int .i64 s, .int .i64 i, .string b] 26)).heap[w.heap.size]? = some (.cells #[.int .i64 k, .int .i64 d, .int .i64 e, .int .i64 s, .int .i64 i, .string b] 26 (0, 0)) from heap_alloc_new w _)
  have HT := Lib.hid ht
  have hkl := kn_le k
  have wd := wf_of (n := d) (by omega) (by omega)
  have we := wf_of (n := e) (by omega) (by omega)
  have ws := wf_of (n := s) (by omega) (by omega)
  have wi := wf_of (n := i) (by omega) (by omega)
  have wb := wf_of (n := (b.size : Int)) (by omega) (by omega)
  have hl4 : (fourT d e s i).length ≤ 88 := by
    have a1 := blk_le d wd
    have a2 := blk_le e we
    have a3 := blk_le s ws
    have a4 := blk_le i wi
    unfold fourT
    simp only [List.length_append]
    omega
  obtain ⟨t, htx⟩ : ∃ t : ByteArray, t = ⟨(kn k).toArray⟩ := ⟨_, rfl⟩
  have HTX := Lib.hid (show t.data.toList = kn k by rw [htx])
  have HTY := Lib.hid htx
  have hts : t.size ≤ 5 := by rw [htx]; show (kn k).toArray.size ≤ 5; simpa using hkl
  have HK := Lib.hid (show k = 1 ∨ k = 2 ∨ k = 3 ∨ k = 4 by omega)
  have HY := Lib.hid (show k = 1 → textF k d e s i b.size = [] ++ kn k ++ fourT d e s i ++ blk b.size from fun hk => by rw [textF, if_pos h, if_pos hk]; rfl)
  have HN := Lib.hid (show k ≠ 1 → textF k d e s i b.size = [] ++ kn k ++ fourT d e s i from fun hk => by rw [textF, if_pos h, if_neg hk]; rfl)
  clear h ht htx
  go_enter Tryd.func10, Tryd.ntmps10
  go_wp2_with fail
  refine (implOk_any k d e s i b _ hb).mono ?_
  rintro en w1 ⟨rfl, hb1⟩
  rw [fokB_yes HOK.out]
  have HL1 := Lib.hid (bAfter (bOne w _) hb1 (by simp))
  have HT1 := Lib.hid (HT.out.below (Nat.le_refl _) HL1.out)
  have HH1 := Lib.hid ((hb1.block _ (by simp)).trans HB0.out)
  have HNE := Lib.hid (show w.heap.size ≠ w1.heap.size by have := hb1.size; simp at this; omega)
  clear hb1 HB0
  have HW1 := Lib.hid (Wr.new w1)
  have HH1a := Lib.hid (((bOne w1 (.cells #[.slice none 0 0] 51)).block _ (at_lt HH1.out)).trans HH1.out)
  have HC1 := Lib.hid (B6.at HH1a.out)
  obtain ⟨c0, c1, c2, c3, c4, c5, hlt⟩ := HC1.out
  go_wp2_with fail
  refine (kindName_any k _ HK.out).mono ?_
  rintro en w' ⟨rfl, rfl⟩
  rw [← HTY.out]
  go_wp2_with fail
  refine (text_any w1 _ _ [] t HW1.out (by simp; omega)).mono ?_
  rintro en w2 ⟨rfl, ⟨v2, h2'⟩, s2⟩
  rw [HTX.out] at h2'
  have HH2 := Lib.hid (s2 _ _ _ _ HH1a.out (by decide) HNE.out)
  have HW2 := Lib.hid h2'
  have HC2 := Lib.hid (B6.at HH2.out)
  clear h2' s2 HW1 HH1a HC1 c0 c1 c2 c3 c4 c5 hlt
  obtain ⟨c0, c1, c2, c3, c4, c5, hlt⟩ := HC2.out
  have hmf : ∀ (fn : Fn) (first cap : Array Value) (w : World), (Instr.makeFunc fn first cap).run Tryd.prog w = .ok (.func fn first cap) w := fun _ _ _ _ => rfl
  go_wp2_with fail
  refine (tellDec_any w1 _ v2 _ k d e s i b HW2.out (by simp; omega) HT1.out wd we ws wi).mono ?_
  rintro en w3 ⟨rfl, ⟨v3, h3'⟩, s3⟩
  have HH3 := Lib.hid (s3 _ _ _ _ HH2.out (by decide) HNE.out)
  have HW3 := Lib.hid h3'
  have HC3 := Lib.hid (B6.at HH3.out)
  clear h3' s3 HH2 HW2 HC2 c0 c1 c2 c3 c4 c5 hlt hmf
  obtain ⟨c0, c1, c2, c3, c4, c5, hlt⟩ := HC3.out
  by_cases hk : k = 1
  · have hkb : (k == 1) = true := by simpa using hk
    go_wp2_with fail
    refine (decimal_any w1 _ v3 _ (b.size : Int) 1 HW3.out (by simp only [List.length_append, List.length_nil]; omega) wb HT1.out).mono ?_
    rintro en w4 ⟨rfl, ⟨v4, h4'⟩, s4⟩
    rw [← HY.out hk] at h4'
    have HW7 := Lib.hid h4'
    clear h4' s4 HW3 HH3 HC3 c0 c1 c2 c3 c4 c5 hlt
    have hcv := convert_row (P := Tryd.prog) (l := textF k d e s i b.size) 22 9 5 Tryd.underlying22 Tryd.underlying5 Tryd.underlying9 HW7.out.own
    have hcl := HW7.out.cell
    go_wp2_with fail
    go_ret
    exact ⟨by subst hk; rfl, bAfter HL1.out HW7.out.bel HL1.out.size⟩
  · have hkb : (k == 1) = false := by simpa using hk
    have h3x := HW3.out
    rw [← HN.out hk] at h3x
    have HW7 := Lib.hid h3x
    clear h3x HW3 HH3 HC3
    have hcv := convert_row (P := Tryd.prog) (l := textF k d e s i b.size) 22 9 5 Tryd.underlying22 Tryd.underlying5 Tryd.underlying9 HW7.out.own
    have hcl := HW7.out.cell
    go_wp2_with fail
    go_ret
    exact ⟨rfl, bAfter HL1.out HW7.out.bel HL1.out.size⟩

theorem implText_any (k d e s i : Int) (b : ByteArray) (w : World) (hb : b.size ≤ maxLen) (ht : Tab w) :
    Calls Tryd.prog 10 #[.agg #[.int .i64 k, .int .i64 d, .int .i64 e, .int .i64 s, .int .i64 i, .string b]] w fun en w' => en = .returned (.string ⟨(textF k d e s i b.size).toArray⟩) ∧ Below w.heap.size w w' := by
  by_cases h : FOk k d e s i b.size
  · exact implText_yes k d e s i b w hb h ht
  · rw [textF, if_neg h]
    clear ht
    go_enter Tryd.func10, Tryd.ntmps10
    go_wp2_with fail
    refine (implOk_any k d e s i b _ hb).mono ?_
    rintro en w1 ⟨rfl, hb1⟩
    rw [fokB_no h]
    go_wp2_with fail
    go_ret
    exact ⟨rfl, bAfter (bOne w _) hb1 (by simp)⟩
end Go.Proofs.YtgbdmpfojiihnaaDoor.Frm
