/-
  What a right gate's messages are: the walk of the program's test.
-/
import Derived.Test.YtecfomaapomncaaGtO
import Derived.Test.YtecfomaapomncaaEvW
namespace Go.Proofs.Ytecfomaapomncaa.Gat
open Go.RowKit
open Lnk (bOne bAfter IOwn IIs low_after low_alloc)
set_option linter.unusedVariables false

/-- a test's answer, that tells whether P holds -/
def BEnd (w w' : World) (P : Prop) (e : Ending) : Prop := (∃ x : Bool, e = .returned (.bool x) ∧ (x = true ↔ P)) ∧ Below w.heap.size w w'
theorem bend_no {w w' : World} {P : Prop} (h : ¬ P) (hb : Below w.heap.size w w') : BEnd w w' P (.returned (.bool false)) := ⟨⟨false, rfl, by simp [h]⟩, hb⟩
theorem bend_yes {w w' : World} {P : Prop} (h : P) (hb : Below w.heap.size w w') : BEnd w w' P (.returned (.bool true)) := ⟨⟨true, rfl, by simp [h]⟩, hb⟩
/-- the id of the message ahead -/
def ahead (l : List Ev) : Nat → Int
  | 0 => 0
  | k + 1 => (l.getD k ev0).i
def EvGood (de la nw p : Int) (e : Ev) : Prop := Evt.EOk e.i e.d e.c e.b.size e.a e.t e.r e.n e.s ∧ p < e.i ∧ e.i ≤ la ∧ e.d ≤ de ∧ e.a ≤ nw
def evsP (de la nw : Int) (l : List Ev) : Prop := ∀ k, (h : k < l.length) → EvGood de la nw (ahead l k) l[k]
theorem ahead_next {l : List Ev} {j : Nat} (h : j < l.length) : ahead l (j + 1) = l[j].i := by
  show (l.getD j ev0).i = _
  rw [List.getD_eq_getElem?_getD, List.getElem?_eq_getElem h]
  rfl

set_option maxRecDepth 100000 in
set_option maxHeartbeats 4000000 in
theorem implEvents_any (w : World) (de qu wi ti qa bu le pb pc pj pt nw la : Int) (ea : Option Addr) (en ec : Nat) (ka : Option Addr) (kn kc : Nat) (tu : Int) (fa : Option Addr) (fn fc : Nat) (ra : Option Addr) (rn rc : Nat) (tk ac dr : Int) (E : List Ev) (K : List Lk) (F R : List Int) (h : GIs w.heap.size w ea en ka kn fa fn ra rn E K F R) :
    Calls Try.prog 37 #[.agg #[.int .i64 de, .int .i64 qu, .int .i64 wi, .int .i64 ti, .int .i64 qa, .int .i64 bu, .int .i64 le, .int .i64 pb, .int .i64 pc, .int .i64 pj, .int .i64 pt, .int .i64 nw, .int .i64 la, .slice ea en ec, .slice ka kn kc, .int .i64 tu, .slice fa fn fc, .slice ra rn rc, .int .i64 tk, .int .i64 ac, .int .i64 dr]] w fun e w' => BEnd w w' (en ≤ 60 ∧ evsP de la nw E) e := by
  obtain ⟨W0, hW0⟩ : ∃ W, W = w.alloc (.cells #[.int .i64 de, .int .i64 qu, .int .i64 wi, .int .i64 ti, .int .i64 qa, .int .i64 bu, .int .i64 le, .int .i64 pb, .int .i64 pc, .int .i64 pj, .int .i64 pt, .int .i64 nw, .int .i64 la, .slice ea en ec, .slice ka kn kc, .int .i64 tu, .slice fa fn fc, .slice ra rn rc, .int .i64 tk, .int .i64 ac, .int .i64 dr] 33) := ⟨_, rfl⟩
  have HA : Hid (Box W0 w.heap.size 33 [.int .i64 de, .int .i64 qu, .int .i64 wi, .int .i64 ti, .int .i64 qa, .int .i64 bu, .int .i64 le, .int .i64 pb, .int .i64 pc, .int .i64 pj, .int .i64 pt, .int .i64 nw, .int .i64 la, .slice ea en ec, .slice ka kn kc, .int .i64 tu, .slice fa fn fc, .slice ra rn rc, .int .i64 tk, .int .i64 ac, .int .i64 dr]) := Lib.hid (by rw [hW0]; exact Box.new w [.int .i64 de, .int .i64 qu, .int .i64 wi, .int .i64 ti, .int .i64 qa, .int .i64 bu, .int .i64 le, .int .i64 pb, .int .i64 pc, .int .i64 pj, .int .i64 pt, .int .i64 nw, .int .i64 la, .slice ea en ec, .slice ka kn kc, .int .i64 tu, .slice fa fn fc, .slice ra rn rc, .int .i64 tk, .int .i64 ac, .int .i64 dr] 33)
  have HL : Hid (Below w.heap.size w W0) := Lib.hid (by rw [hW0]; exact bOne _ _)
  have HT := Lib.hid (h.ev)
  have HN := Lib.hid HT.out.row.hlen
  have hle := HT.out.row.le
  unfold maxLen at hle
  have HWE := Lib.hid hW0
  clear h hW0
  have c13 := HA.out.cell 13 _ rfl
  by_cases hbig : 60 < en
  · have hb1 : (60 : Int) < (en : Int) := by omega
    have HBG := Lib.hid hbig
    clear hbig
    go_enter Try.func37, Try.ntmps37
    go_upto_region 1 with fail
    rw [← HWE.out]
    go_wp2_with fail
    go_ret
    exact bend_no (fun h => by have := HBG.out; omega) HL.out
  have hb1 : ¬ (60 : Int) < (en : Int) := by omega
  have HBG := Lib.hid hbig
  clear hbig
  go_enter Try.func37, Try.ntmps37
  go_upto_region 1 with fail
  rw [← HWE.out]
  go_wp2_with fail
  clear c13
  go_loopw [3, 13] (fun av i wr => ∃ j : Nat, j ≤ en ∧ i = .int .i64 j ∧ av = .int .i64 (ahead E j) ∧ Hid (∀ k, (h : k < E.length) → k < j → EvGood de la nw (ahead E k) E[k]) ∧ Hid (Below w.heap.size w wr) ∧ Hid (Box wr w.heap.size 33 [.int .i64 de, .int .i64 qu, .int .i64 wi, .int .i64 ti, .int .i64 qa, .int .i64 bu, .int .i64 le, .int .i64 pb, .int .i64 pc, .int .i64 pj, .int .i64 pt, .int .i64 nw, .int .i64 la, .slice ea en ec, .slice ka kn kc, .int .i64 tu, .slice fa fn fc, .slice ra rn rc, .int .i64 tk, .int .i64 ac, .int .i64 dr])) (fun _ i _ => en - (intOf i).toNat)
  case atStart => exact ⟨0, by omega, rfl, rfl, Lib.hid (fun k _ hk => by omega), HL, HA⟩
  case round =>
    obtain ⟨j, hj, rfl, rfl, HG, HB, HX0⟩ := hrel
    by_cases hlt : (j : Int) < (en : Int)
    · have hjl : j < E.length := by have := HN.out; omega
      obtain ⟨b', off, i', d', c', bd', a', t', r', n', s', rfl, hb', hlj, hbd', x0, x1, x2, x3, x4, x5, x6, x7, x8⟩ := (HT.out.below HB.out).at j hjl
      have HJ := Lib.hid hlj
      have HBD := Lib.hid hbd'
      have HAH := Lib.hid (ahead_next hjl)
      obtain ⟨p, hp⟩ : ∃ p, p = ahead E j := ⟨_, rfl⟩
      rw [← hp]
      have HP := Lib.hid hp
      have HNO := Lib.hid (show ¬ EvGood de la nw p ⟨i', d', c', bd', a', t', r', n', s'⟩ → ¬ (en ≤ 60 ∧ evsP de la nw E) from fun hn h => hn (by have := h.2 j hjl; rwa [hlj, ← hp] at this))
      have HB1 := Lib.hid (bOne wr (.cells #[.int .i64 i', .int .i64 d', .int .i64 c', .string bd', .int .i64 a', .int .i64 t', .int .i64 r', .int .i64 n', .int .i64 s'] 65))
      have HE := Lib.hid (Evt.B9.new wr i' d' c' bd' a' t' r' n' s' 65)
      have HL1 := Lib.hid (bAfter HB.out HB1.out HB.out.size)
      have HX1 := Lib.hid (HX0.out.below HB1.out)
      clear hlj hb' hbd' hp
      go_wp2_with fail
      refine (Evt.implOk_any i' d' c' bd' a' t' r' n' s' _ HBD.out).mono ?_
      rintro e w2 ⟨rfl, hb2⟩
      have HL2 := Lib.hid (bAfter HL1.out hb2 HL1.out.size)
      have HX2 := Lib.hid (HX1.out.below hb2)
      have HE2 := Lib.hid (HE.out.below hb2)
      clear hb2 x0 x1 x2 x3 x4 x5 x6 x7 x8 HB1 HE HL1 HX1
      obtain ⟨y0, y1, y2, y3, y4, y5, y6, y7, y8, ylt⟩ := HE2.out
      have c0 := HX2.out.cell 0 _ rfl
      have c11 := HX2.out.cell 11 _ rfl
      have c12 := HX2.out.cell 12 _ rfl
      cases hok : Evt.eokB i' d' c' bd'.size a' t' r' n' s' with
      | false =>
        have HNP := Lib.hid (HNO.out (fun h => by have h1 : Evt.eokB i' d' c' bd'.size a' t' r' n' s' = true := Evt.eokB_yes h.1; rw [hok] at h1; cases h1))
        clear hok
        go_wp2_with fail
        go_ret
        exact bend_no HNP.out HL2.out
      | true =>
      have HOK := Lib.hid (show Evt.EOk i' d' c' bd'.size a' t' r' n' s' from of_decide_eq_true hok)
      clear hok
      by_cases h1 : i' ≤ p
      · have HNP := Lib.hid (HNO.out (fun h => by have := h.2; dsimp only at this; omega))
        go_wp2_with fail
        go_ret
        exact bend_no HNP.out HL2.out
      by_cases h2 : la < i'
      · have HNP := Lib.hid (HNO.out (fun h => by have := h.2; dsimp only at this; omega))
        go_wp2_with fail
        go_ret
        exact bend_no HNP.out HL2.out
      by_cases h3 : de < d'
      · have HNP := Lib.hid (HNO.out (fun h => by have := h.2; dsimp only at this; omega))
        go_wp2_with fail
        go_ret
        exact bend_no HNP.out HL2.out
      by_cases h4 : nw < a'
      · have HNP := Lib.hid (HNO.out (fun h => by have := h.2; dsimp only at this; omega))
        go_wp2_with fail
        go_ret
        exact bend_no HNP.out HL2.out
      have HGD := Lib.hid (show EvGood de la nw p ⟨i', d', c', bd', a', t', r', n', s'⟩ from ⟨HOK.out, by dsimp only; omega, by dsimp only; omega, by dsimp only; omega, by dsimp only; omega⟩)
      have HAL := Lib.hid (show Hid (∀ k, (h : k < E.length) → k < j + 1 → EvGood de la nw (ahead E k) E[k]) from Lib.hid (fun k hk hkj => by
        rcases (show k < j ∨ k = j by omega) with h | rfl
        · exact HG.out k hk h
        · rw [HJ.out, ← HP.out]; exact HGD.out))
      go_wp2_with fail
      go_roundw
      case rel => exact ⟨j + 1, by omega, by go_num, by rw [HAH.out, HJ.out], HAL.out, HL2, HX2⟩
      case measure => simp [intOf]; omega
    · have hjl : j = E.length := by have := HN.out; omega
      have HY := Lib.hid (show en ≤ 60 ∧ evsP de la nw E from ⟨by have := HBG.out; omega, fun k hk => HG.out k hk (by omega)⟩)
      clear hjl
      go_wp2_with fail
      go_ret
      exact bend_yes HY.out HB.out

end Go.Proofs.Ytecfomaapomncaa.Gat
