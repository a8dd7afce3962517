/-
  The walk of the program's EventText. Condition: the library's table of powers of ten and the program's own table of the statuses' words are as they were laid.
-/
import Derived.Test.YtjcopkjapnieoaaDoorEvTS
import Derived.Test.YtjcopkjapnieoaaDoorWordS
namespace Go.Proofs.YtjcopkjapnieoaaDoor.Evt
open Go.RowKit Go.Proofs.YtjcopkjapnieoaaDoor.Kit
set_option linter.unusedVariables false
set_option linter.unusedSimpArgs false

/-- texts of numbers -/
def bts (L : List Int) : List ByteArray := L.map fun x => ⟨(Lib.itoa x).toArray⟩
theorem bts_snoc (L : List Int) (k : Nat) (h : k < L.length) : bts (L.take (k + 1)) = bts (L.take k) ++ [⟨(Lib.itoa L[k]).toArray⟩] := by
  unfold bts
  rw [List.take_succ_eq_append_getElem h, List.map_append]
  rfl
theorem bts_lists (L : List Int) (q : List UInt8) : (bts L ++ [(⟨q.toArray⟩ : ByteArray)]).map (fun (z : ByteArray) => z.data.toList) = L.map Lib.itoa ++ [q] := by
  unfold bts
  simp
theorem own_below {w w' : World} {B : Nat} {e : TypeId} {v : Value} {n : Nat} {xs : List Value} (h : w.ownsRow B e 1 v n xs) (hb : Below w.heap.size w w') : w'.ownsRow B e 1 v n xs :=
  h.kept (row := none) ⟨hb.os, hb.tape, hb.output, hb.size, fun k hk _ => hb.block k hk⟩ (by cases v.ownBlock <;> simp)

set_option maxRecDepth 100000 in
set_option maxHeartbeats 1000000 in
theorem implText_any (i d c : Int) (b : ByteArray) (a t r n s : Int) (w : World) (hb : b.size ≤ maxLen) (ht : Tab w) (hst : Stat w) :
    Calls Tryd.prog 7 #[.agg #[.int .i64 i, .int .i64 d, .int .i64 c, .string b, .int .i64 a, .int .i64 t, .int .i64 r, .int .i64 n, .int .i64 s]] w fun e w' => e = .returned (.string ⟨(textE i d c b.size a t r n s).toArray⟩) ∧ Below w.heap.size w w' := by
  obtain ⟨i0, hi, hz0, hz1, hz2⟩ := info_parts Word.infoStr
  have HL := Lib.hid (bOne w (.cells #[.int .i64 i, .int .i64 d, .int .i64 c, .string b, .int .i64 a, .int .i64 t, .int .i64 r, .int .i64 n, .int .i64 s] 25))
  have HB := Lib.hid (B9.new w i d c b a t r n s 25)
  by_cases h : EOk i d c b.size a t r n s
  rotate_left 1
  · have HT := Lib.hid (show textE i d c b.size a t r n s = [] from if_neg h)
    have HE := Lib.hid (eokB_no h)
    clear h
    go_enter Tryd.func7, Tryd.ntmps7
    go_wp2_with fail
    refine (implOk_any i d c b a t r n s _ hb).mono ?_
    rintro e w1 ⟨rfl, hb1⟩
    rw [HE.out]
    go_wp2_with fail
    go_ret
    exact ⟨by rw [HT.out]; rfl, bAfter HL.out hb1 HL.out.size⟩
  · have HT := Lib.hid (show textE i d c b.size a t r n s = headE (numsE i d c a t r n) ++ stN s from if_pos h)
    have HE := Lib.hid (eokB_yes h)
    have HK := Lib.hid h
    have HSB := Lib.hid (show 0 ≤ s ∧ s ≤ 3 from by unfold EOk at h; omega)
    have HTB := Lib.hid ht
    have HST := Lib.hid hst
    clear h ht hst
    go_enter Tryd.func7, Tryd.ntmps7
    go_wp2_with fail
    refine (implOk_any i d c b a t r n s _ hb).mono ?_
    rintro e w1 ⟨rfl, hb1⟩
    rw [HE.out]
    have HL1 := Lib.hid (bAfter HL.out hb1 HL.out.size)
    have HB1 := Lib.hid (HB.out.below hb1)
    clear hb1 HL HB
    obtain ⟨c0, c1, c2, c3, c4, c5, c6, c7, c8, hlt⟩ := HB1.out
    go_wp2_with fail
    have HN := Lib.hid (list_cells w1 i d c a t r n 3)
    have HL2 := Lib.hid (bAfter HL1.out (bOne w1 (.cells #[.int .i64 i, .int .i64 d, .int .i64 c, .int .i64 a, .int .i64 t, .int .i64 r, .int .i64 n] 3)) HL1.out.size)
    have HB2 := Lib.hid (HB1.out.below (bOne w1 (.cells #[.int .i64 i, .int .i64 d, .int .i64 c, .int .i64 a, .int .i64 t, .int .i64 r, .int .i64 n] 3)))
    have HG2 := Lib.hid (show w1.heap.size < (w1.alloc (.cells #[.int .i64 i, .int .i64 d, .int .i64 c, .int .i64 a, .int .i64 t, .int .i64 r, .int .i64 n] 3)).heap.size by simp)
    clear c0 c1 c2 c3 c4 c5 c6 c7 c8 hlt HB1 HL1
    obtain ⟨W2, hW2⟩ : ∃ W, W = w1.alloc (.cells #[.int .i64 i, .int .i64 d, .int .i64 c, .int .i64 a, .int .i64 t, .int .i64 r, .int .i64 n] 3) := ⟨_, rfl⟩
    rw [← hW2] at HN HL2 HB2 HG2 ⊢
    clear hW2
    obtain ⟨g, hg⟩ : ∃ g, g = w1.heap.size := ⟨_, rfl⟩
    rw [← hg] at HN HG2 ⊢
    clear hg
    have HT2 := Lib.hid (HTB.out.below (Nat.le_refl _) HL2.out)
    have HS2 := Lib.hid (HST.out.below (Nat.le_refl _) HL2.out)
    clear HTB HST
    go_loopw [3, 25] (fun v iv wr => ∃ k : Nat, k ≤ 7 ∧ iv = .int .i64 k ∧ wr.ownsRow W2.heap.size 9 1 v k ((bts ((numsE i d c a t r n).take k)).map .string) ∧ Hid (Below W2.heap.size W2 wr)) (fun _ iv _ => 7 - (intOf iv).toNat)
    case atStart => exact ⟨0, by omega, rfl, World.ownsRow_nil _ _ _ _, Lib.hid (Below.refl _ _)⟩
    case round =>
      obtain ⟨k, hk, rfl, hown, HBR⟩ := hrel
      by_cases hlt : k < 7
      · have hli : (k : Int) < 7 := by omega
        have hc := (HBR.out.cell (p := ⟨g, k, none⟩) HG2.out).trans (HN.out k hlt)
        have hx := numsE_bd HK.out _ (List.getElem_mem (l := numsE i d c a t r n) (n := k) hlt)
        have hsn := bts_snoc (numsE i d c a t r n) k hlt
        obtain ⟨x, hxe⟩ : ∃ x, x = (numsE i d c a t r n)[k] := ⟨_, rfl⟩
        rw [← hxe] at hc hx hsn
        obtain ⟨o, ho⟩ : ∃ o, o = bts ((numsE i d c a t r n).take k) := ⟨_, rfl⟩
        rw [← ho] at hsn hown
        have HSN := Lib.hid hsn
        obtain ⟨hx0, hx1⟩ := hx
        clear hsn hxe ho
        go_wp2_with fail
        refine (Dec.decText_any x _ (by omega) (by omega) (HT2.out.below (Nat.le_refl _) HBR.out).1).mono ?_
        rintro e w3 ⟨rfl, hb3⟩
        have hown3 := own_below hown hb3
        have hbel3 := bAfter HBR.out hb3 HBR.out.size
        clear hown hb3 hc
        go_wp2_with (at_builtin; refine append_one rfl _ _ 28 rfl 9 i0 _ 16 Tryd.underlying28 hi hz0 hz1 hz2 rfl (by decide) rfl hown3 rfl (Word.str_oneCell _) (by omega) hbel3 (Nat.le_refl _) ?_; intro v' w' hown' hbel' _ _)
        go_roundw
        case rel => exact ⟨k + 1, by omega, by go_num, by rw [HSN.out, List.map_append]; exact hown', Lib.hid hbel'⟩
        case measure => simp [intOf]; omega
      · obtain rfl : k = 7 := by omega
        have hsn : (numsE i d c a t r n).take 7 = numsE i d c a t r n := rfl
        rw [hsn] at hown
        obtain ⟨c0, c1, c2, c3, c4, c5, c6, c7, c8, hlt2⟩ := HB2.out.below HBR.out
        have HS3 := Lib.hid (HS2.out.below (Nat.le_refl _) HBR.out)
        have HLX := Lib.hid (bAfter HL2.out HBR.out HL2.out.size)
        have hbel := HBR.out
        have hsj : s.toNat < 4 := by have := HSB.out; omega
        have hcs := HS3.out.2 s.toNat hsj
        obtain ⟨j, rfl⟩ := Int.eq_ofNat_of_zero_le HSB.out.1
        have hj3 : (j : Int) ≤ 3 := HSB.out.2
        have hj4 : (j : Int) < 4 := by omega
        rw [show (j : Int).toNat = j from by omega] at hcs hsj
        have HQ := Lib.hid (show stN (j : Int) = stL.getD j [] from by unfold stN; rw [show (j : Int).toNat = j from by omega])
        obtain ⟨q, hq⟩ : ∃ q, q = stL.getD j [] := ⟨_, rfl⟩
        rw [← hq] at hcs HQ
        have HQL := Lib.hid (show q.length ≤ 7 from by rw [← HQ.out]; exact stN_le HSB.out.1 HSB.out.2)
        clear hq hsn hlt hk HS3
        go_wp2_with (first | (at_builtin; refine append_one rfl _ _ 28 rfl 9 i0 _ 16 Tryd.underlying28 hi hz0 hz1 hz2 rfl (by decide) rfl hown rfl (Word.str_oneCell _) (by omega) hbel (Nat.le_refl _) ?_; intro v' w' hown' hbel' _ _) | fail)
        have HX := Lib.hid (bAfter HL2.out hbel' HL2.out.size)
        obtain ⟨g', cap, hv, hcap, hlg⟩ : ∃ g' cap, v' = .slice (some ⟨g', 0, none⟩) (7 + 1) cap ∧ 7 + 1 ≤ cap ∧ g' < w'.heap.size := by
          rcases hown'.2 with ⟨_, h0⟩ | ⟨g2, cap2, cur, hv, _, hh, h1, _⟩
          · omega
          · exact ⟨g2, cap2, hv, h1, (Array.getElem?_eq_some_iff.1 hh).1⟩
        subst hv
        obtain ⟨xs, hxs⟩ : ∃ xs : List ByteArray, xs = bts (numsE i d c a t r n) ++ [⟨q.toArray⟩] := ⟨_, rfl⟩
        have he : List.map Value.string (bts (numsE i d c a t r n)) ++ [Value.string ⟨q.toArray⟩] = xs.map Value.string := by rw [hxs, List.map_append]; rfl
        have hlx : xs.length = 8 := by rw [hxs, List.length_append, bts, List.length_map]; rfl
        have hjt : Lib.join (xs.map (fun (z : ByteArray) => z.data.toList)) [32] = headE (numsE i d c a t r n) ++ q := by rw [hxs, bts_lists, join_text]
        rw [he] at hown'
        clear hxs he
        have hcells : ∀ (j : Nat) x, xs[j]? = some x → w'.cell? ⟨g', 0 + j, none⟩ = some (.string x) := by
          intro j x hx
          have hj : j < xs.length := (List.getElem?_eq_some_iff.1 hx).1
          have hj8 : j < (7 + 1) * 1 := by omega
          rw [Nat.zero_add, hown'.cellAt j hj8, List.getElem?_map, hx]
          rfl
        have hlen : (Lib.join (xs.map (fun (z : ByteArray) => z.data.toList)) [32]).length ≤ 140737488355328 := by
          rw [hjt, List.length_append]
          have h1 := head_take_le HK.out 7 (by omega)
          rw [show (numsE i d c a t r n).take 7 = numsE i d c a t r n from rfl] at h1
          have h2 := HQL.out
          omega
        have hjoin := Tryd.strings_Join g' 0 cap xs ⟨#[32]⟩ w' hcells hlg (by omega) (by omega) hlen
        rw [hlx, show (⟨#[32]⟩ : ByteArray).data.toList = [32] from rfl, hjt] at hjoin
        have HJ := Lib.hid hjoin
        clear hown' hown hbel hbel' hjt hjoin hcells hlen hlg c0 c1 c2 c3 c4 c5 c6 c7 c8 hlt2 hcs
        refine HJ.out.mono ?_
        rintro e w5 ⟨rfl, hb5⟩
        have HX5 := Lib.hid (bAfter HX.out hb5 HX.out.size)
        clear hb5
        go_wp2_with fail
        go_ret
        refine ⟨?_, HX5.out⟩
        rw [HT.out, HQ.out]
        rfl
end Go.Proofs.YtjcopkjapnieoaaDoor.Evt
