/-
  EventAt: the walks, of the specification and of the program.
-/
import Derived.Test.YtecfomaapomncaaGtF
import Derived.Test.YtecfomaapomncaaGtB
import Derived.Shelf.Abstract
namespace Go.Proofs.Ytecfomaapomncaa.Gat
open Go.RowKit Go.Maps
open Lnk (bOne bAfter keyInt grown_of_below low_after)
set_option linter.unusedVariables false

def isI (id : Int) (e : Ev) : Bool := e.i == id
/-- the place of the first message of an id, or -1 -/
def atI (id : Int) (l : List Ev) : Int := if l.any (isI id) then (l.findIdx (isI id) : Int) else -1
theorem atI_yes {id : Int} {l : List Ev} {j : Nat} (h : j < l.length) (hi : l[j].i = id) (hno : ∀ k, (hk : k < l.length) → k < j → l[k].i ≠ id) : atI id l = (j : Int) := by
  have h1 : l.any (isI id) = true := List.any_eq_true.2 ⟨l[j], List.getElem_mem h, by simp [isI, hi]⟩
  have h2 : l.findIdx (isI id) = j := by
    rw [List.findIdx_eq h]
    exact ⟨by simp [isI, hi], fun k hk => by simpa [isI] using hno k (by omega) hk⟩
  unfold atI
  rw [if_pos h1, h2]
theorem atI_no {id : Int} {l : List Ev} (hno : ∀ k, (hk : k < l.length) → l[k].i ≠ id) : atI id l = -1 := by
  have h1 : ¬ l.any (isI id) = true := by
    intro h
    obtain ⟨e, he, h2⟩ := List.any_eq_true.1 h
    obtain ⟨k, hk, rfl⟩ := List.mem_iff_getElem.1 he
    exact hno k hk (by simpa [isI] using h2)
  unfold atI
  rw [if_neg h1]
theorem fill_at (id : Int) (l : List Ev) : (if id ∈ fillK (fun _ => true) l then (firstI (fun _ => true) id l : Int) else -1) = atI id l := by
  have h : id ∈ fillK (fun _ => true) l ↔ l.any (isI id) = true := by
    rw [fillK_mem, List.any_eq_true]
    exact ⟨fun ⟨e, he, _, h2⟩ => ⟨e, he, by simp [isI, h2]⟩, fun ⟨e, he, h2⟩ => ⟨e, he, rfl, by simpa [isI] using h2⟩⟩
  unfold atI
  by_cases hm : id ∈ fillK (fun _ => true) l
  · rw [if_pos hm, if_pos (h.1 hm)]
    rfl
  · rw [if_neg hm, if_neg (fun h' => hm (h.2 h'))]

set_option maxRecDepth 100000 in
set_option maxHeartbeats 2000000 in
theorem specEventAt_any (w : World) (de qu wi ti qa bu le pb pc pj pt nw la : Int) (ea : Option Addr) (en ec : Nat) (ka : Option Addr) (kn kc : Nat) (tu : Int) (fa : Option Addr) (fn fc : Nat) (ra : Option Addr) (rn rc : Nat) (tk ac dr : Int) (E : List Ev) (K : List Lk) (F R : List Int) (x : Int) (h : GIs w.heap.size w ea en ka kn fa fn ra rn E K F R) :
    Calls Try.prog 27 #[.agg #[.int .i64 de, .int .i64 qu, .int .i64 wi, .int .i64 ti, .int .i64 qa, .int .i64 bu, .int .i64 le, .int .i64 pb, .int .i64 pc, .int .i64 pj, .int .i64 pt, .int .i64 nw, .int .i64 la, .slice ea en ec, .slice ka kn kc, .int .i64 tu, .slice fa fn fc, .slice ra rn rc, .int .i64 tk, .int .i64 ac, .int .i64 dr], .int .i64 x] w fun e w' => e = .returned (.int .i64 (atI x E)) ∧ Below w.heap.size w w' := by
  obtain ⟨W0, hW0⟩ : ∃ W, W = w.alloc (.cells #[.int .i64 de, .int .i64 qu, .int .i64 wi, .int .i64 ti, .int .i64 qa, .int .i64 bu, .int .i64 le, .int .i64 pb, .int .i64 pc, .int .i64 pj, .int .i64 pt, .int .i64 nw, .int .i64 la, .slice ea en ec, .slice ka kn kc, .int .i64 tu, .slice fa fn fc, .slice ra rn rc, .int .i64 tk, .int .i64 ac, .int .i64 dr] 33) := ⟨_, rfl⟩
  have HA : Hid (Box W0 w.heap.size 33 [.int .i64 de, .int .i64 qu, .int .i64 wi, .int .i64 ti, .int .i64 qa, .int .i64 bu, .int .i64 le, .int .i64 pb, .int .i64 pc, .int .i64 pj, .int .i64 pt, .int .i64 nw, .int .i64 la, .slice ea en ec, .slice ka kn kc, .int .i64 tu, .slice fa fn fc, .slice ra rn rc, .int .i64 tk, .int .i64 ac, .int .i64 dr]) := Lib.hid (by rw [hW0]; exact Box.new w [.int .i64 de, .int .i64 qu, .int .i64 wi, .int .i64 ti, .int .i64 qa, .int .i64 bu, .int .i64 le, .int .i64 pb, .int .i64 pc, .int .i64 pj, .int .i64 pt, .int .i64 nw, .int .i64 la, .slice ea en ec, .slice ka kn kc, .int .i64 tu, .slice fa fn fc, .slice ra rn rc, .int .i64 tk, .int .i64 ac, .int .i64 dr] 33)
  have HL : Hid (Below w.heap.size w W0) := Lib.hid (by rw [hW0]; exact bOne _ _)
  have HT := Lib.hid (h.here HL.out).ev
  have HN := Lib.hid HT.out.row.hlen
  have hle := HT.out.row.le
  unfold maxLen at hle
  have HWE := Lib.hid hW0
  clear h hW0
  have c13 := HA.out.cell 13 _ rfl
  go_enter Try.func27, Try.ntmps27
  go_wp2_with fail
  rw [← HWE.out]
  go_loopw [5] (fun i wr => ∃ j : Nat, j ≤ en ∧ i = .int .i64 j ∧ Hid (∀ k, (hk : k < E.length) → k < j → E[k].i ≠ x) ∧ wr = W0) (fun i _ => en - (intOf i).toNat)
  case atStart => exact ⟨0, by omega, rfl, Lib.hid (fun k _ hk => by omega), rfl⟩
  case round =>
    obtain ⟨j, hj, rfl, HNO, rfl⟩ := hrel
    by_cases hlt : (j : Int) < (en : Int)
    · have hjl : j < E.length := by have := HN.out; omega
      obtain ⟨b', off, i', d', c', bd', a', t', r', n', s', rfl, hb', hlj, hbd', x0, x1, x2, x3, x4, x5, x6, x7, x8⟩ := HT.out.at j hjl
      have HJ := Lib.hid (show E[j].i = i' by rw [hlj])
      clear hlj
      cases h1 : (i' == x) with
      | true =>
        have HR := Lib.hid (atI_yes hjl (by rw [HJ.out]; simpa using h1) HNO.out)
        go_wp2_with fail
        go_ret
        exact ⟨by rw [HR.out]; rfl, HL.out⟩
      | false =>
        have HN2 := Lib.hid (show ∀ k, (hk : k < E.length) → k < j + 1 → E[k].i ≠ x from fun k hk hkj => by
          rcases (show k < j ∨ k = j by omega) with h | rfl
          · exact HNO.out k hk h
          · rw [HJ.out]; simpa using h1)
        go_wp2_with fail
        go_roundw
        case rel => exact ⟨j + 1, by omega, by go_num, HN2, by trivial⟩
        case measure => simp [intOf]; omega
    · have hjl : j = E.length := by have := HN.out; omega
      have HR := Lib.hid (atI_no (id := x) (l := E) (fun k hk => HNO.out k hk (by omega)))
      clear hjl
      go_wp2_with fail
      go_ret
      exact ⟨by rw [HR.out]; rfl, HL.out⟩

theorem all_any (i d c : Int) (b : ByteArray) (a t r n s : Int) (w : World) :
    Calls Try.prog 47 #[.agg #[.int .i64 i, .int .i64 d, .int .i64 c, .string b, .int .i64 a, .int .i64 t, .int .i64 r, .int .i64 n, .int .i64 s]] w fun e w' => e = .returned (.bool true) ∧ Below w.heap.size w w' := by
  go_enter Try.func47, Try.ntmps47
  go_wp2
  go_ret
  exact ⟨rfl, bOne _ _⟩
theorem enters_all : ∀ (args : Array Value) (w1 : World), (callFunc 47 args).run Try.prog w1 = .ok (.enter 47 args) w1 := enters_of Try.func47 (by kernel_rfl) rfl

set_option maxRecDepth 100000 in
set_option maxHeartbeats 2000000 in
theorem implEventAt_any (w : World) (de qu wi ti qa bu le pb pc pj pt nw la : Int) (ea : Option Addr) (en ec : Nat) (ka : Option Addr) (kn kc : Nat) (tu : Int) (fa : Option Addr) (fn fc : Nat) (ra : Option Addr) (rn rc : Nat) (tk ac dr : Int) (E : List Ev) (K : List Lk) (F R : List Int) (x : Int) (hx : (Lit.int .i64 x).wf = true) (hE : ∀ e ∈ E, (Lit.int .i64 e.i).wf = true) (hen : en ≤ 1048576) (h : GIs w.heap.size w ea en ka kn fa fn ra rn E K F R) :
    Calls Try.prog 19 #[.agg #[.int .i64 de, .int .i64 qu, .int .i64 wi, .int .i64 ti, .int .i64 qa, .int .i64 bu, .int .i64 le, .int .i64 pb, .int .i64 pc, .int .i64 pj, .int .i64 pt, .int .i64 nw, .int .i64 la, .slice ea en ec, .slice ka kn kc, .int .i64 tu, .slice fa fn fc, .slice ra rn rc, .int .i64 tk, .int .i64 ac, .int .i64 dr], .int .i64 x] w fun e w' => e = .returned (.int .i64 (atI x E)) ∧ Below w.heap.size w w' := by
  have hmm := @run_makeMap Try.prog
  obtain ⟨W0, hW0⟩ : ∃ W, W = w.alloc (.cells #[.int .i64 de, .int .i64 qu, .int .i64 wi, .int .i64 ti, .int .i64 qa, .int .i64 bu, .int .i64 le, .int .i64 pb, .int .i64 pc, .int .i64 pj, .int .i64 pt, .int .i64 nw, .int .i64 la, .slice ea en ec, .slice ka kn kc, .int .i64 tu, .slice fa fn fc, .slice ra rn rc, .int .i64 tk, .int .i64 ac, .int .i64 dr] 33) := ⟨_, rfl⟩
  have HA : Hid (Box W0 w.heap.size 33 [.int .i64 de, .int .i64 qu, .int .i64 wi, .int .i64 ti, .int .i64 qa, .int .i64 bu, .int .i64 le, .int .i64 pb, .int .i64 pc, .int .i64 pj, .int .i64 pt, .int .i64 nw, .int .i64 la, .slice ea en ec, .slice ka kn kc, .int .i64 tu, .slice fa fn fc, .slice ra rn rc, .int .i64 tk, .int .i64 ac, .int .i64 dr]) := Lib.hid (by rw [hW0]; exact Box.new w [.int .i64 de, .int .i64 qu, .int .i64 wi, .int .i64 ti, .int .i64 qa, .int .i64 bu, .int .i64 le, .int .i64 pb, .int .i64 pc, .int .i64 pj, .int .i64 pt, .int .i64 nw, .int .i64 la, .slice ea en ec, .slice ka kn kc, .int .i64 tu, .slice fa fn fc, .slice ra rn rc, .int .i64 tk, .int .i64 ac, .int .i64 dr] 33)
  have HL : Hid (Below w.heap.size w W0) := Lib.hid (by rw [hW0]; exact bOne _ _)
  have HT := Lib.hid (h.below HL.out).ev
  have HX := Lib.hid hx
  have HEW := Lib.hid hE
  have HWE := Lib.hid hW0
  have HSZ := Lib.hid (show w.heap.size + 1 = W0.heap.size by rw [hW0]; simp)
  clear h hW0 hx hE
  have c13 := HA.out.cell 13 _ rfl
  go_enter Try.func19, Try.ntmps19
  go_upto_region 1 with fail
  rw [← HWE.out]
  clear HWE
  go_upto_region 2 with fail
  have HM0 := Lib.hid (World.ownsMap_made (H := Unit) W0 Try.prog 3 (plainElem (H := Unit) Try.prog 3))
  have HB1 := Lib.hid (bOne W0 (.map #[] 0))
  obtain ⟨b, hb⟩ : ∃ b, b = W0.heap.size := ⟨_, rfl⟩
  rw [← hb] at HM0 ⊢
  have HA1 := Lib.hid (HA.out.below HB1.out)
  have HT1 := Lib.hid (show EIs b (W0.alloc (.map #[] 0)) ea en E from (HT.out.below (HB1.out.mono (by have := HSZ.out; omega))).mono (by have := HSZ.out; omega))
  have HL1 := Lib.hid (low_after HL.out HB1.out)
  have HBS := Lib.hid (show b ≤ (W0.alloc (.map #[] 0)).heap.size by rw [hb]; simp)
  have HBW := Lib.hid (show w.heap.size < b by rw [hb]; have := HSZ.out; omega)
  clear hb c13 HA HL HT HSZ HB1
  obtain ⟨W1, hW1⟩ : ∃ W, W = W0.alloc (.map #[] 0) := ⟨_, rfl⟩
  rw [← hW1] at HM0 HA1 HT1 HL1 HBS ⊢
  clear hW1
  have c13 := HA1.out.cell 13 _ rfl
  go_wp2_with fail
  refine (fill0_any 47 (fun _ => true) W1 b b 0 _ ea en ec E (Nat.le_refl _) HBS.out HT1.out HEW.out (by omega) HM0.out enters_all (fun w1 i d c bd at_ t r n s hg => all_any i d c bd at_ t r n s w1)).mono ?_
  rintro e w2 ⟨rfl, ⟨D, hM, hV⟩, hg⟩
  have HM := Lib.hid hM
  have HL2 := Lib.hid (HL1.out.grown hg HL1.out.size (fun k e => by cases e; exact Nat.le_of_lt HBW.out))
  clear c13
  have HF := Lib.hid (fill_at x E)
  have HHH := Lib.hid (hM.keys x)
  by_cases hin : x ∈ fillK (fun _ => true) E
  · have hv := hV x hin
    have hha : Maps.has D (.int .i64 x) = true := by rw [HHH.out]; exact decide_eq_true hin
    have hf := HF.out
    rw [if_pos hin] at hf
    have HR := Lib.hid hf
    have HV := Lib.hid hv
    clear hM hV hg hin hv hf
    go_wp2_with (first | (at_lookup; refine wpList_lookup_own_ok_int _ rfl _ _ 74 rfl 3 3 .i64 keyInt Try.underlying74 Try.underlying3 (zeroInt _) b en D rfl HM.out.own _ (.int .i64 x) rfl (keyOf_wf HX.out) ?_; intro c1 hat hwc; rw [hha]; have HC := Lib.hid hat; clear hat hwc) | fail)
    go_ret
    have hc := HC.out
    rw [HV.out] at hc
    simp only [DataW.lit.injEq, Lit.int.injEq, true_and] at hc
    exact ⟨by rw [← HR.out, hc]; rfl, HL2.out⟩
  · have hha : Maps.has D (.int .i64 x) = false := by rw [HHH.out]; exact decide_eq_false hin
    have hf := HF.out
    rw [if_neg hin] at hf
    have HR := Lib.hid hf
    clear hM hV hg hin hf
    go_wp2_with (first | (at_lookup; refine wpList_lookup_own_ok_int _ rfl _ _ 74 rfl 3 3 .i64 keyInt Try.underlying74 Try.underlying3 (zeroInt _) b en D rfl HM.out.own _ (.int .i64 x) rfl (keyOf_wf HX.out) ?_; intro c1 hat hwc; rw [hha]; clear hat hwc) | fail)
    go_ret
    exact ⟨by rw [← HR.out]; rfl, HL2.out⟩

end Go.Proofs.Ytecfomaapomncaa.Gat
