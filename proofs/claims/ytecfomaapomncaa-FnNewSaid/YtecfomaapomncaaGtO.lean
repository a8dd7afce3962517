/-
  How many open messages a device has: the walks, of the program and of the specification.
-/
import Derived.Test.YtecfomaapomncaaGtG
import Derived.Test.YtecfomaapomncaaGtB
import Derived.Test.YtecfomaapomncaaEvR
import Derived.Deep.DeepCutAuto
namespace Go.Proofs.Ytecfomaapomncaa.Gat
open Go.RowKit
open Lnk (bOne bAfter IOwn IIs below_keep below_drew' bcell low_after low_alloc)
set_option linter.unusedVariables false

def isDS (d s : Int) (e : Ev) : Bool := (e.d == d) && (e.s == s)
def isO (d : Int) (e : Ev) : Bool := (e.d == d) && Evt.openB e.s
def cntN (d s : Int) (l : List Ev) : Nat := l.countP (isDS d s)
def openN (d : Int) (l : List Ev) : Nat := l.countP (isO d)
theorem cntN_le (d s : Int) (l : List Ev) : cntN d s l ≤ l.length := List.countP_le_length
theorem openN_le (d : Int) (l : List Ev) : openN d l ≤ l.length := List.countP_le_length
theorem cnt_next {p : Ev → Bool} {l : List Ev} {j : Nat} (h : j < l.length) : (l.take (j + 1)).countP p = (l.take j).countP p + (if p l[j] then 1 else 0) := by
  rw [List.take_succ_eq_append_getElem h, List.countP_append, List.countP_singleton]
theorem isO_eq (d : Int) (e : Ev) : isO d e = (isDS d 0 e || isDS d 1 e) := by
  unfold isO isDS Evt.openB
  by_cases h0 : e.s = 0
  · simp [Evt.OpenP, h0]
  · by_cases h1 : e.s = 1 <;> simp [Evt.OpenP, h0, h1]
theorem openN_eq (d : Int) : ∀ l : List Ev, openN d l = cntN d 0 l + cntN d 1 l
  | [] => rfl
  | e :: l => by
    have ih := openN_eq d l
    unfold openN cntN at *
    rw [List.countP_cons, List.countP_cons, List.countP_cons, ih, isO_eq]
    have hex : isDS d 0 e = true → isDS d 1 e = false := by
      unfold isDS
      intro h
      simp at h
      simp [h.2]
    cases h0 : isDS d 0 e with
    | true => rw [hex h0]; simp; omega
    | false => simp; omega

set_option maxRecDepth 100000 in
set_option maxHeartbeats 2000000 in
theorem count_any (w : World) (de qu wi ti qa bu le pb pc pj pt nw la : Int) (ea : Option Addr) (en ec : Nat) (ka : Option Addr) (kn kc : Nat) (tu : Int) (fa : Option Addr) (fn fc : Nat) (ra : Option Addr) (rn rc : Nat) (tk ac dr : Int) (E : List Ev) (K : List Lk) (F R : List Int) (d s : Int) (h : GIs w.heap.size w ea en ka kn fa fn ra rn E K F R) :
    Calls Try.prog 54 #[.agg #[.int .i64 de, .int .i64 qu, .int .i64 wi, .int .i64 ti, .int .i64 qa, .int .i64 bu, .int .i64 le, .int .i64 pb, .int .i64 pc, .int .i64 pj, .int .i64 pt, .int .i64 nw, .int .i64 la, .slice ea en ec, .slice ka kn kc, .int .i64 tu, .slice fa fn fc, .slice ra rn rc, .int .i64 tk, .int .i64 ac, .int .i64 dr], .int .i64 d, .int .i64 s] w fun e w' => e = .returned (.int .i64 (cntN d s E)) ∧ Below w.heap.size w w' := by
  obtain ⟨W0, hW0⟩ : ∃ W, W = w.alloc (.cells #[.int .i64 de, .int .i64 qu, .int .i64 wi, .int .i64 ti, .int .i64 qa, .int .i64 bu, .int .i64 le, .int .i64 pb, .int .i64 pc, .int .i64 pj, .int .i64 pt, .int .i64 nw, .int .i64 la, .slice ea en ec, .slice ka kn kc, .int .i64 tu, .slice fa fn fc, .slice ra rn rc, .int .i64 tk, .int .i64 ac, .int .i64 dr] 33) := ⟨_, rfl⟩
  have HA : Hid (Box W0 w.heap.size 33 [.int .i64 de, .int .i64 qu, .int .i64 wi, .int .i64 ti, .int .i64 qa, .int .i64 bu, .int .i64 le, .int .i64 pb, .int .i64 pc, .int .i64 pj, .int .i64 pt, .int .i64 nw, .int .i64 la, .slice ea en ec, .slice ka kn kc, .int .i64 tu, .slice fa fn fc, .slice ra rn rc, .int .i64 tk, .int .i64 ac, .int .i64 dr]) := Lib.hid (by rw [hW0]; exact Box.new w [.int .i64 de, .int .i64 qu, .int .i64 wi, .int .i64 ti, .int .i64 qa, .int .i64 bu, .int .i64 le, .int .i64 pb, .int .i64 pc, .int .i64 pj, .int .i64 pt, .int .i64 nw, .int .i64 la, .slice ea en ec, .slice ka kn kc, .int .i64 tu, .slice fa fn fc, .slice ra rn rc, .int .i64 tk, .int .i64 ac, .int .i64 dr] 33)
  have HL : Hid (Below w.heap.size w W0) := Lib.hid (by rw [hW0]; exact bOne _ _)
  have HT := Lib.hid (h.here HL.out).ev
  have HN := Lib.hid HT.out.row.hlen
  have hle := HT.out.row.le
  unfold maxLen at hle
  have HWE := Lib.hid hW0
  clear h hW0
  have c13 := HA.out.cell 13 _ rfl
  go_enter Try.func54, Try.ntmps54
  go_wp2_with fail
  rw [← HWE.out]
  go_loopw [7, 8] (fun nv i wr => ∃ j : Nat, j ≤ en ∧ i = .int .i64 j ∧ nv = .int .i64 (cntN d s (E.take j)) ∧ wr = W0) (fun _ i _ => en - (intOf i).toNat)
  case atStart => exact ⟨0, by omega, rfl, rfl, rfl⟩
  case round =>
    obtain ⟨j, hj, rfl, rfl, rfl⟩ := hrel
    by_cases hlt : (j : Int) < (en : Int)
    · have hjl : j < E.length := by have := HN.out; omega
      obtain ⟨b', off, i', d', c', bd', a', t', r', n', s', rfl, hb', hlj, hbd', x0, x1, x2, x3, x4, x5, x6, x7, x8⟩ := HT.out.at j hjl
      have HX := Lib.hid (cnt_next (p := isDS d s) hjl)
      have HJ := Lib.hid (show isDS d s E[j] = ((d' == d) && (s' == s)) by rw [hlj]; rfl)
      have HM := Lib.hid (cntN_le d s (E.take j))
      have HK := Lib.hid (List.length_take_le j E)
      clear hlj
      obtain ⟨m, hm⟩ : ∃ m, m = cntN d s (E.take j) := ⟨_, rfl⟩
      rw [← hm]
      have HMM := Lib.hid hm
      have hmb : m ≤ j := by have := HM.out; rw [← hm] at this; exact Nat.le_trans this HK.out
      clear hm
      cases h1 : (d' == d) with
      | false =>
        have HC := Lib.hid (show Value.int IntKind.i64 (m : Int) = Value.int IntKind.i64 (cntN d s (E.take (j + 1)) : Int) by
          have h := HX.out
          rw [HJ.out, h1] at h
          rw [HMM.out, show cntN d s (E.take (j + 1)) = cntN d s (E.take j) by unfold cntN; rw [h]; simp])
        go_wp2_with fail
        go_roundw
        case rel => exact ⟨j + 1, by omega, by go_num, HC.out, by trivial⟩
        case measure => simp [intOf]; omega
      | true =>
        cases h2 : (s' == s) with
        | false =>
          have HC := Lib.hid (show Value.int IntKind.i64 (m : Int) = Value.int IntKind.i64 (cntN d s (E.take (j + 1)) : Int) by
            have h := HX.out
            rw [HJ.out, h1, h2] at h
            rw [HMM.out, show cntN d s (E.take (j + 1)) = cntN d s (E.take j) by unfold cntN; rw [h]; simp])
          go_wp2_with fail
          go_roundw
          case rel => exact ⟨j + 1, by omega, by go_num, HC.out, by trivial⟩
          case measure => simp [intOf]; omega
        | true =>
          have HC := Lib.hid (show Value.int IntKind.i64 ((m : Int) + 1) = Value.int IntKind.i64 (cntN d s (E.take (j + 1)) : Int) by
            have h := HX.out
            rw [HJ.out, h1, h2] at h
            rw [HMM.out, show cntN d s (E.take (j + 1)) = cntN d s (E.take j) + 1 by unfold cntN; rw [h]; simp]
            simp)
          go_wp2_with fail
          go_roundw
          case rel => exact ⟨j + 1, by omega, by go_num, HC.out, by trivial⟩
          case measure => simp [intOf]; omega
    · have hjl : j = E.length := by have := HN.out; omega
      have HJ := Lib.hid hjl
      clear hjl
      go_wp2_with fail
      go_ret
      exact ⟨by rw [HJ.out, List.take_length]; rfl, HL.out⟩

end Go.Proofs.Ytecfomaapomncaa.Gat
