/-
  The walk of the specification's EventText.
-/
import Derived.Test.YtjcopkjapnieoaaDoorEvTA
import Derived.Test.YtjcopkjapnieoaaDoorEvW
namespace Go.Proofs.YtjcopkjapnieoaaDoor.Evt
open Go.RowKit
set_option linter.unusedVariables false
set_option linter.unusedSimpArgs false

theorem list_cells (w : World) (i d c a t r n : Int) (T : TypeId) : ∀ k (h : k < 7), (w.alloc (.cells #[.int .i64 i, .int .i64 d, .int .i64 c, .int .i64 a, .int .i64 t, .int .i64 r, .int .i64 n] T)).cell? ⟨w.heap.size, k, none⟩ = some (.int .i64 ((numsE i d c a t r n)[k]'h)) := by
  intro k h
  rw [cell_of_row _ _ k _ T (0, 0) (heap_alloc_new w _)]
  rcases (show k = 0 ∨ k = 1 ∨ k = 2 ∨ k = 3 ∨ k = 4 ∨ k = 5 ∨ k = 6 by omega) with rfl | rfl | rfl | rfl | rfl | rfl | rfl <;> rfl

set_option maxRecDepth 100000 in
set_option maxHeartbeats 2000000 in
theorem specText_any (i d c : Int) (b : ByteArray) (a t r n s : Int) (w : World) (hb : b.size ≤ maxLen) :
    Calls Tryd.prog 8 #[.agg #[.int .i64 i, .int .i64 d, .int .i64 c, .string b, .int .i64 a, .int .i64 t, .int .i64 r, .int .i64 n, .int .i64 s]] w fun e w' => e = .returned (.string ⟨(textE i d c b.size a t r n s).toArray⟩) ∧ Below w.heap.size w w' := by
  have HL := Lib.hid (bOne w (.cells #[.int .i64 i, .int .i64 d, .int .i64 c, .string b, .int .i64 a, .int .i64 t, .int .i64 r, .int .i64 n, .int .i64 s] 25))
  have HB := Lib.hid (B9.new w i d c b a t r n s 25)
  by_cases h : EOk i d c b.size a t r n s
  rotate_left 1
  · have HT := Lib.hid (show textE i d c b.size a t r n s = [] from if_neg h)
    have HE := Lib.hid (eokB_no h)
    clear h
    go_enter Tryd.func8, Tryd.ntmps8
    go_wp2_with fail
    refine (specOk_any i d c b a t r n s _ hb).mono ?_
    rintro e w1 ⟨rfl, hb1⟩
    rw [HE.out]
    go_wp2_with fail
    go_ret
    exact ⟨by rw [HT.out]; rfl, bAfter HL.out hb1 HL.out.size⟩
  · have HT := Lib.hid (show textE i d c b.size a t r n s = headE (numsE i d c a t r n) ++ stN s from if_pos h)
    have HE := Lib.hid (eokB_yes h)
    have HK := Lib.hid h
    have hs0 : 0 ≤ s := by unfold EOk at h; omega
    have hs1 : s ≤ 3 := by unfold EOk at h; omega
    have HSB := Lib.hid (And.intro hs0 hs1)
    clear h hs0 hs1
    go_enter Tryd.func8, Tryd.ntmps8
    go_wp2_with fail
    refine (specOk_any i d c b a t r n s _ hb).mono ?_
    rintro e w1 ⟨rfl, hb1⟩
    rw [HE.out]
    have HL1 := Lib.hid (bAfter HL.out hb1 HL.out.size)
    have HB1 := Lib.hid (HB.out.below hb1)
    clear hb1 HL HB
    obtain ⟨c0, c1, c2, c3, c4, c5, c6, c7, c8, hlt⟩ := HB1.out
    go_wp2_with fail
    have HN := Lib.hid (list_cells w1 i d c a t r n 3)
    have HL2 := Lib.hid (bAfter HL1.out (bOne w1 (.cells #[.int .i64 i, .int .i64 d, .int .i64 c, .int .i64 a, .int .i64 t, .int .i64 r, .int .i64 n] 3)) HL1.out.size)
    have HB2 := Lib.hid (HB1.out.below (bOne w1 (.cells #[.int .i64 i, .int .i64 d, .int .i64 c, .int .i64 a, .int .i64 t, .int .i64 r, .int .i64 n] 3)))
    clear c0 c1 c2 c3 c4 c5 c6 c7 c8 hlt HB1 HL1
    obtain ⟨W2, hW2⟩ : ∃ W, W = w1.alloc (.cells #[.int .i64 i, .int .i64 d, .int .i64 c, .int .i64 a, .int .i64 t, .int .i64 r, .int .i64 n] 3) := ⟨_, rfl⟩
    rw [← hW2] at HN HL2 HB2 ⊢
    clear hW2
    obtain ⟨g, hg⟩ : ∃ g, g = w1.heap.size := ⟨_, rfl⟩
    rw [← hg] at HN ⊢
    clear hg
    go_loop [4, 5] (fun o iv => ∃ k : Nat, k ≤ 7 ∧ iv = .int .i64 k ∧ o = .string ⟨(headE ((numsE i d c a t r n).take k)).toArray⟩) (fun _ iv => 7 - (intOf iv).toNat)
    case atStart => exact ⟨0, by omega, rfl, rfl⟩
    case round =>
      obtain ⟨k, hk, rfl, rfl⟩ := hrel
      by_cases hlt : k < 7
      · have hli : (k : Int) < 7 := by omega
        have hc := HN.out k hlt
        have hx := numsE_bd HK.out _ (List.getElem_mem (l := numsE i d c a t r n) (n := k) hlt)
        have hsn := headE_snoc (numsE i d c a t r n) k hlt
        have hl := head_take_le HK.out k hk
        obtain ⟨x, hxe⟩ : ∃ x, x = (numsE i d c a t r n)[k] := ⟨_, rfl⟩
        rw [← hxe] at hc hx hsn
        obtain ⟨o, ho⟩ : ∃ o, o = headE ((numsE i d c a t r n).take k) := ⟨_, rfl⟩
        rw [← ho] at hsn hl ⊢
        have hil := Lib.itoa_length_le x (by omega) (by omega)
        have hadd1 : ∀ wx, (Op.stringOp .add ⟨o.toArray⟩ ⟨(Lib.itoa x).toArray⟩).run Tryd.prog wx = .ok (.string ⟨(o ++ Lib.itoa x).toArray⟩) wx := cat_lists _ _ (by omega)
        have hadd2 : ∀ wx, (Op.stringOp .add ⟨(o ++ Lib.itoa x).toArray⟩ ⟨#[32]⟩).run Tryd.prog wx = .ok (.string ⟨(o ++ Lib.itoa x ++ [32]).toArray⟩) wx := cat_lists _ [32] (by simp; omega)
        have HSN := Lib.hid hsn
        obtain ⟨hx0, hx1⟩ := hx
        clear hsn hxe ho hil hl
        go_wp2_with fail
        refine (Dec.specDec_any x _ (by omega) (by omega)).mono ?_
        rintro e w3 ⟨rfl, rfl⟩
        go_wp2_with fail
        go_round
        case rel => exact ⟨k + 1, by omega, by go_num, by rw [HSN.out, List.append_assoc]⟩
        case measure => simp [intOf]; omega
      · obtain rfl : k = 7 := by omega
        have hsn : (numsE i d c a t r n).take 7 = numsE i d c a t r n := rfl
        rw [hsn]
        have hl := head_take_le HK.out 7 (by omega)
        rw [hsn] at hl
        obtain ⟨o, ho⟩ : ∃ o, o = headE (numsE i d c a t r n) := ⟨_, rfl⟩
        rw [← ho] at HT hl ⊢
        obtain ⟨c0, c1, c2, c3, c4, c5, c6, c7, c8, hlt2⟩ := HB2.out
        have HLX := Lib.hid (bAfter HL2.out (bOne W2 (.cells #[.string ⟨#[119, 97, 105, 116, 105, 110, 103]⟩, .string ⟨#[102, 108, 121, 105, 110, 103]⟩, .string ⟨#[101, 120, 112, 105, 114, 101, 100]⟩, .string ⟨#[100, 101, 97, 100]⟩] 9)) HL2.out.size)
        clear ho hsn hlt hk
        rcases (show s = 0 ∨ s = 1 ∨ s = 2 ∨ s = 3 by have := HSB.out; omega) with rfl | rfl | rfl | rfl
        · have hadd : ∀ wx, (Op.stringOp .add ⟨o.toArray⟩ ⟨#[119, 97, 105, 116, 105, 110, 103]⟩).run Tryd.prog wx = .ok (.string ⟨(o ++ [119, 97, 105, 116, 105, 110, 103]).toArray⟩) wx := cat_lists _ [119, 97, 105, 116, 105, 110, 103] (by simp; omega)
          clear hl
          go_wp2_with fail
          go_ret
          exact ⟨by rw [HT.out]; rfl, HLX.out⟩
        · have hadd : ∀ wx, (Op.stringOp .add ⟨o.toArray⟩ ⟨#[102, 108, 121, 105, 110, 103]⟩).run Tryd.prog wx = .ok (.string ⟨(o ++ [102, 108, 121, 105, 110, 103]).toArray⟩) wx := cat_lists _ [102, 108, 121, 105, 110, 103] (by simp; omega)
          clear hl
          go_wp2_with fail
          go_ret
          exact ⟨by rw [HT.out]; rfl, HLX.out⟩
        · have hadd : ∀ wx, (Op.stringOp .add ⟨o.toArray⟩ ⟨#[101, 120, 112, 105, 114, 101, 100]⟩).run Tryd.prog wx = .ok (.string ⟨(o ++ [101, 120, 112, 105, 114, 101, 100]).toArray⟩) wx := cat_lists _ [101, 120, 112, 105, 114, 101, 100] (by simp; omega)
          clear hl
          go_wp2_with fail
          go_ret
          exact ⟨by rw [HT.out]; rfl, HLX.out⟩
        · have hadd : ∀ wx, (Op.stringOp .add ⟨o.toArray⟩ ⟨#[100, 101, 97, 100]⟩).run Tryd.prog wx = .ok (.string ⟨(o ++ [100, 101, 97, 100]).toArray⟩) wx := cat_lists _ [100, 101, 97, 100] (by simp; omega)
          clear hl
          go_wp2_with fail
          go_ret
          exact ⟨by rw [HT.out]; rfl, HLX.out⟩
end Go.Proofs.YtjcopkjapnieoaaDoor.Evt
