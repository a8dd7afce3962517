/-
  The walks of the queue's put and part, of land and of flyingIds.
  The walk of the specification's l05Ids.
  The walk of the specification's Join.
  The specification's functions on links, whatever the cap of what flies.
  The walk of the specification's Leave.
  The specification's functions on links, whatever the cap of what flies.
  The walks of Old and Ready, of the program and of the specification, where neither At nor Ttl is below 0 or beyond what a draw makes of them.
  How many open messages a device has: the walks, of the program and of the specification.
-/
import Derived.Test.YtkndpkingmemoaaDoorMgb
import Derived.Test.YtkndpkingmemoaaDoorMge
import Derived.Deep.RegionLaw
import Derived.Deep.RegionWith
import Derived.Deep.DeepCutAuto
import Derived.Test.YtkndpkingmemoaaDoorMgd
import Derived.Test.YtkndpkingmemoaaDoorMgc
namespace Go.Proofs.YtkndpkingmemoaaDoor.Lnk
open Go.RowKit
open Go.Proofs.YtkndpkingmemoaaDoor.Kit (append_one)
set_option linter.unusedVariables false

/-- ints that were handed back -/
def IntsEnd (w w' : World) (xs : List Int) (e : Ending) : Prop := (∃ a cap, e = .returned (.slice a xs.length cap) ∧ IOwn w.heap.size w' (.slice a xs.length cap) xs) ∧ Below w.heap.size w w'

set_option maxRecDepth 100000 in
set_option maxHeartbeats 1000000 in
theorem flyingIds_any (w : World) (a : Option Addr) (len cap : Nat) (l : List Y) (h : YIs w.heap.size w a len l) (hlen : len ≤ 1100000) :
    Calls Tryd.prog 55 #[.slice a len cap] w fun e w' => IntsEnd w w' (idsL l) e := by
  obtain ⟨i0, hi, hz0, hz1, hz2⟩ := info_parts infoInt
  have HL := Lib.hid h.hlen
  have HT := Lib.hid h
  clear h
  go_enter Tryd.func55, Tryd.ntmps55
  go_wp2_with fail
  go_loopw [3, 8] (fun vi i wr => ∃ j : Nat, j ≤ len ∧ i = .int .i64 j ∧ Hid (IOwn w.heap.size wr vi (idsL (l.take j))) ∧ Hid (Below w.heap.size w wr)) (fun _ i _ => len - (intOf i).toNat)
  case atStart => exact ⟨0, by omega, rfl, Lib.hid (IOwn.nil _ _), Lib.hid (Below.refl _ _)⟩
  case round =>
    obtain ⟨j, hj, rfl, HO, HB⟩ := hrel
    by_cases hlt : (j : Int) < (len : Int)
    · have hjd : j < l.length := by have := HL.out; omega
      obtain ⟨b', off, rfl, hbw, e0, e1, e2⟩ := (HT.out.below HB.out).cell j hjd
      obtain ⟨p, hp⟩ : ∃ p, p = l[j].1 := ⟨_, rfl⟩
      obtain ⟨q, hq⟩ : ∃ q, q = l[j].2.1 := ⟨_, rfl⟩
      obtain ⟨r, hr⟩ : ∃ r, r = l[j].2.2 := ⟨_, rfl⟩
      have HQ := Lib.hid hq
      rw [← hp] at e0
      rw [← hq] at e1
      rw [← hr] at e2
      clear hp hq hr
      have hown : (wr.alloc (.cells #[.int .i64 p, .int .i64 q, .int .i64 r] 86)).ownsRow w.heap.size 3 1 u3 j ((idsL (l.take j)).map fun x => .int .i64 x) := by
        have := World.ownsRow.alloc HO.out (.cells #[.int .i64 p, .int .i64 q, .int .i64 r] 86)
        simpa [idsL, Nat.min_eq_left (show j ≤ l.length by omega)] using this
      have hbel : Below w.heap.size w (wr.alloc (.cells #[.int .i64 p, .int .i64 q, .int .i64 r] 86)) := HB.out.alloc HB.out.size _
      have HOWN := Lib.hid hown
      have HBEL := Lib.hid hbel
      have HSZ := Lib.hid (show (wr.alloc (.cells #[.int .i64 p, .int .i64 q, .int .i64 r] 86)).heap.size = wr.heap.size + 1 by simp)
      clear hown hbel
      go_wp2_with (first | (at_builtin; refine append_one rfl _ _ 31 rfl 3 i0 _ 8 Tryd.underlying31 hi hz0 hz1 hz2 rfl (by decide) rfl HOWN.out (by rw [HSZ.out]; rfl) rfl (by omega) HBEL.out (Nat.le_refl _) ?_; intro v' w' hown' hbel' _ _; have HO' := Lib.hid hown'; have HB' := Lib.hid hbel'; clear hown' hbel') | fail)
      go_roundw
      case rel =>
        refine ⟨j + 1, by omega, by go_num, Lib.hid ?_, HB'⟩
        have h1 := HO'.out
        have h2 : idsL (l.take (j + 1)) = idsL (l.take j) ++ [q] := by
          unfold idsL
          rw [List.take_succ_eq_append_getElem hjd, HQ.out, List.map_append, List.map_cons, List.map_nil]
        rw [h2]
        unfold IOwn
        simpa [idsL, Nat.min_eq_left (show j ≤ l.length by omega)] using h1
      case measure => simp [intOf]; omega
    · have hjd : j = l.length := by have := HL.out; omega
      have hO := HO.out
      rw [hjd, List.take_length] at hO
      obtain ⟨a', c', rfl⟩ := hO.shape
      have HO2 := Lib.hid hO
      clear hO hjd
      go_wp2_with fail
      go_ret
      exact ⟨⟨a', c', rfl, HO2.out⟩, HB.out⟩

/-- what hands back a link and ints -/
def LandEnd (w w' : World) (up : Bool) (ep sq : Int) (l : List Y) (xs : List Int) (e : Ending) : Prop :=
  (∃ a cap a2 cap2, e = .returned (.tuple #[.agg #[.bool up, .int .i64 ep, .int .i64 sq, .slice a l.length cap], .slice a2 xs.length cap2]) ∧ YOwn w.heap.size w' 86 (.slice a l.length cap) l ∧ IOwn w.heap.size w' (.slice a2 xs.length cap2) xs) ∧ Below w.heap.size w w'

end Go.Proofs.YtkndpkingmemoaaDoor.Lnk
namespace Go.Proofs.YtkndpkingmemoaaDoor.Lnk
open Go.RowKit
open Go.Proofs.YtkndpkingmemoaaDoor.Kit (append_one)
set_option linter.unusedVariables false

set_option maxRecDepth 100000 in
set_option maxHeartbeats 1000000 in
theorem specIds_any (w : World) (a : Option Addr) (len cap : Nat) (up : Bool) (ep sq : Int) (l : List Y) (h : YIs w.heap.size w a len l) (hlen : len ≤ 1100000) :
    Calls Tryd.prog 78 #[.agg #[.bool up, .int .i64 ep, .int .i64 sq, .slice a len cap]] w fun e w' => IntsEnd w w' (idsL l) e := by
  obtain ⟨i0, hi, hz0, hz1, hz2⟩ := info_parts infoInt
  have hb0 := bOne w (.cells #[.bool up, .int .i64 ep, .int .i64 sq, .slice a len cap] 44)
  have hs0 : (w.alloc (.cells #[.bool up, .int .i64 ep, .int .i64 sq, .slice a len cap] 44)).heap.size = w.heap.size + 1 := by simp
  have hq := ilit (w.alloc (.cells #[.bool up, .int .i64 ep, .int .i64 sq, .slice a len cap] 44))
  have hx := B4.new w up ep sq (.slice a len cap) 44
  have HT := Lib.hid (h.below hb0)
  have HL := Lib.hid h.hlen
  rw [hs0] at hq
  obtain ⟨W, hW⟩ : ∃ W, W = w.alloc (.cells #[.bool up, .int .i64 ep, .int .i64 sq, .slice a len cap] 44) := ⟨_, rfl⟩
  rw [← hW] at hb0 hs0 hq hx HT
  have HB0 := Lib.hid hb0
  have HS0 := Lib.hid hs0
  have HQ := Lib.hid hq
  have HX := Lib.hid hx
  have HB1 := Lib.hid (show Below (w.heap.size + 1) W (W.alloc (.cells #[] 3)) from by have := bOne W (.cells #[] 3); rwa [hs0] at this)
  have HWE := Lib.hid hW
  clear h hb0 hs0 hq hx hW
  go_enter Tryd.func78, Tryd.ntmps78
  go_wp2_with fail
  rw [← HWE.out]
  go_loopw [3, 4] (fun vi i wr => ∃ j : Nat, j ≤ len ∧ i = .int .i64 j ∧ Hid (IOwn (w.heap.size + 1) wr vi (idsL (l.take j))) ∧ Hid (Below (w.heap.size + 1) W wr)) (fun _ i _ => len - (intOf i).toNat)
  case atStart => exact ⟨0, by omega, rfl, HQ, HB1⟩
  case round =>
    obtain ⟨j, hj, rfl, HO, HB⟩ := hrel
    have HX2 := Lib.hid (HX.out.low HB.out (by omega))
    obtain ⟨c0, c1, c2, c3, hlt0⟩ := HX2.out.cells
    have HWS := Lib.hid (show w.heap.size + 1 ≤ wr.heap.size by omega)
    by_cases hlt : (j : Int) < (len : Int)
    · have hjd : j < l.length := by have := HL.out; omega
      obtain ⟨b', off, rfl, hbw, e0, e1, e2⟩ := (HT.out.below (HB.out.mono (by omega))).cell j hjd
      obtain ⟨q, hq⟩ : ∃ q, q = l[j].2.1 := ⟨_, rfl⟩
      have HQE := Lib.hid hq
      rw [← hq] at e1
      clear hq e0 e2
      have hbw2 : b' < wr.heap.size := by omega
      have hown : wr.ownsRow (w.heap.size + 1) 3 1 u3 j ((idsL (l.take j)).map fun x => .int .i64 x) := by
        have := HO.out
        unfold IOwn at this
        simpa [idsL, Nat.min_eq_left (show j ≤ l.length by omega)] using this
      have HOWN := Lib.hid hown
      have HSW := Lib.hid (show w.heap.size + 1 ≤ W.heap.size by rw [HS0.out]; exact Nat.le_refl _)
      clear hown
      go_wp2_with (first | (at_builtin; refine append_one rfl _ _ 31 rfl 3 i0 _ 8 Tryd.underlying31 hi hz0 hz1 hz2 rfl (by decide) rfl HOWN.out rfl rfl (by omega) HB.out HSW.out ?_; intro v' w' hown' hbel' _ _; have HO' := Lib.hid hown'; have HB' := Lib.hid hbel'; clear hown' hbel') | fail)
      go_roundw
      case rel =>
        refine ⟨j + 1, by omega, by go_num, Lib.hid ?_, HB'⟩
        have h1 := HO'.out
        have h2 : idsL (l.take (j + 1)) = idsL (l.take j) ++ [q] := by
          unfold idsL
          rw [List.take_succ_eq_append_getElem hjd, HQE.out, List.map_append, List.map_cons, List.map_nil]
        rw [h2]
        unfold IOwn
        simpa [idsL, Nat.min_eq_left (show j ≤ l.length by omega)] using h1
      case measure => simp [intOf]; omega
    · have hjd : j = l.length := by have := HL.out; omega
      have hO := HO.out
      rw [hjd, List.take_length] at hO
      obtain ⟨a', c', rfl⟩ := hO.shape
      have HO2 := Lib.hid hO
      clear hO hjd
      go_wp2_with fail
      go_ret
      exact ⟨⟨a', c', rfl, HO2.out.base (by omega)⟩, HB0.out.trans (HB.out.mono (by omega))⟩

end Go.Proofs.YtkndpkingmemoaaDoor.Lnk
namespace Go.Proofs.YtkndpkingmemoaaDoor.Lnk
open Go.RowKit
set_option linter.unusedVariables false

end Go.Proofs.YtkndpkingmemoaaDoor.Lnk
namespace Go.Proofs.YtkndpkingmemoaaDoor.Lnk
open Go.RowKit
set_option linter.unusedVariables false

end Go.Proofs.YtkndpkingmemoaaDoor.Lnk
namespace Go.Proofs.YtkndpkingmemoaaDoor.Lnk
open Go.RowKit
set_option linter.unusedVariables false

end Go.Proofs.YtkndpkingmemoaaDoor.Lnk
namespace Go.Proofs.YtkndpkingmemoaaDoor.Lnk
open Go.RowKit
set_option linter.unusedVariables false

end Go.Proofs.YtkndpkingmemoaaDoor.Lnk
namespace Go.Proofs.YtkndpkingmemoaaDoor.Evt
open Go.RowKit
set_option linter.unusedVariables false

def OpenP (s : Int) : Prop := s = 0 ∨ s = 1
instance (s : Int) : Decidable (OpenP s) := by unfold OpenP; infer_instance
def openB (s : Int) : Bool := decide (OpenP s)
def OldP (a t s now : Int) : Prop := OpenP s ∧ a + t ≤ now
instance (a t s now : Int) : Decidable (OldP a t s now) := by unfold OldP; infer_instance
def RdyP (a t n s now : Int) : Prop := s = 0 ∧ n ≤ now ∧ ¬ (a + t ≤ now)
instance (a t n s now : Int) : Decidable (RdyP a t n s now) := by unfold RdyP; infer_instance
/-- a box of a message's times and status -/
structure M4 (w : World) (k : Nat) (a t n s : Int) : Prop where
  c0 : w.cell? ⟨k, 0, none⟩ = some (.int .i64 a)
  c1 : w.cell? ⟨k, 1, none⟩ = some (.int .i64 t)
  c2 : w.cell? ⟨k, 2, none⟩ = some (.int .i64 n)
  c3 : w.cell? ⟨k, 3, none⟩ = some (.int .i64 s)
  lt : k < w.heap.size
theorem M4.new (w : World) (a t n s : Int) (ty : TypeId) : M4 (w.alloc (.cells #[.int .i64 a, .int .i64 t, .int .i64 n, .int .i64 s] ty)) w.heap.size a t n s :=
  ⟨cell_of_row _ _ 0 _ ty (0, 0) (heap_alloc_new w _), cell_of_row _ _ 1 _ ty (0, 0) (heap_alloc_new w _), cell_of_row _ _ 2 _ ty (0, 0) (heap_alloc_new w _), cell_of_row _ _ 3 _ ty (0, 0) (heap_alloc_new w _), by simp⟩
theorem M4.below {w w' : World} {k : Nat} {a t n s : Int} (h : M4 w k a t n s) (hb : Below w.heap.size w w') : M4 w' k a t n s :=
  ⟨(hb.cell (p := ⟨k, 0, none⟩) h.lt).trans h.c0, (hb.cell (p := ⟨k, 1, none⟩) h.lt).trans h.c1, (hb.cell (p := ⟨k, 2, none⟩) h.lt).trans h.c2, (hb.cell (p := ⟨k, 3, none⟩) h.lt).trans h.c3, Nat.lt_of_lt_of_le h.lt hb.size⟩

theorem open_any (a t n s : Int) (w : World) :
    Calls Tryd.prog 38 #[.agg #[.int .i64 a, .int .i64 t, .int .i64 n, .int .i64 s]] w fun e w' => e = .returned (.bool (openB s)) ∧ Below w.heap.size w w' := by
  rcases (show s = 0 ∨ s = 1 ∨ (s ≠ 0 ∧ s ≠ 1) by omega) with rfl | rfl | ⟨h0, h1⟩
  · go_enter Tryd.func38, Tryd.ntmps38
    go_wp2
    go_ret
    exact ⟨rfl, bOne _ _⟩
  · go_enter Tryd.func38, Tryd.ntmps38
    go_wp2
    go_ret
    exact ⟨rfl, bOne _ _⟩
  · have e0 : (s == 0) = false := beq_eq_false_iff_ne.2 h0
    have e1 : (s == 1) = false := beq_eq_false_iff_ne.2 h1
    have HO := Lib.hid (show openB s = false from decide_eq_false (by unfold OpenP; omega))
    go_enter Tryd.func38, Tryd.ntmps38
    go_wp2
    go_ret
    exact ⟨by rw [HO.out]; rfl, bOne _ _⟩

end Go.Proofs.YtkndpkingmemoaaDoor.Evt
namespace Go.Proofs.YtkndpkingmemoaaDoor.Gat
open Go.RowKit
open Lnk (bOne bAfter IOwn IIs below_keep below_drew' bcell low_after low_alloc)
set_option linter.unusedVariables false

def isDS (d s : Int) (e : Ev) : Bool := (e.d == d) && (e.s == s)
def isO (d : Int) (e : Ev) : Bool := (e.d == d) && Evt.openB e.s
def cntN (d s : Int) (l : List Ev) : Nat := l.countP (isDS d s)
def openN (d : Int) (l : List Ev) : Nat := l.countP (isO d)
theorem cntN_le (d s : Int) (l : List Ev) : cntN d s l ≤ l.length := List.countP_le_length
theorem openN_le (d : Int) (l : List Ev) : openN d l ≤ l.length := List.countP_le_length
theorem cnt_next {p : Ev → Bool} {l : List Ev} {j : Nat} (h : j < l.length) : (l.take (j + 1)).countP p = (l.take j).countP p + (if p l[j] then 1 else 0) := by
  rw [List.take_succ_eq_append_getElem h, List.countP_append, List.countP_singleton]
theorem isO_eq (d : Int) (e : Ev) : isO d e = (isDS d 0 e || isDS d 1 e) := by
  unfold isO isDS Evt.openB
  by_cases h0 : e.s = 0
  · simp [Evt.OpenP, h0]
  · by_cases h1 : e.s = 1 <;> simp [Evt.OpenP, h0, h1]
theorem openN_eq (d : Int) : ∀ l : List Ev, openN d l = cntN d 0 l + cntN d 1 l
  | [] => rfl
  | e :: l => by
    have ih := openN_eq d l
    unfold openN cntN at *
    rw [List.countP_cons, List.countP_cons, List.countP_cons, ih, isO_eq]
    have hex : isDS d 0 e = true → isDS d 1 e = false := by
      unfold isDS
      intro h
      simp at h
      simp [h.2]
    cases h0 : isDS d 0 e with
    | true => rw [hex h0]; simp; omega
    | false => simp; omega

set_option maxRecDepth 100000 in
set_option maxHeartbeats 2000000 in
theorem count_any (w : World) (de qu wi ti qa bu le pb pc pj pt nw la : Int) (ea : Option Addr) (en ec : Nat) (ka : Option Addr) (kn kc : Nat) (tu : Int) (fa : Option Addr) (fn fc : Nat) (ra : Option Addr) (rn rc : Nat) (tk ac dr : Int) (E : List Ev) (K : List Lk) (F R : List Int) (d s : Int) (h : GIs w.heap.size w ea en ka kn fa fn ra rn E K F R) :
    Calls Tryd.prog 19 #[.agg #[.int .i64 de, .int .i64 qu, .int .i64 wi, .int .i64 ti, .int .i64 qa, .int .i64 bu, .int .i64 le, .int .i64 pb, .int .i64 pc, .int .i64 pj, .int .i64 pt, .int .i64 nw, .int .i64 la, .slice ea en ec, .slice ka kn kc, .int .i64 tu, .slice fa fn fc, .slice ra rn rc, .int .i64 tk, .int .i64 ac, .int .i64 dr], .int .i64 d, .int .i64 s] w fun e w' => e = .returned (.int .i64 (cntN d s E)) ∧ Below w.heap.size w w' := by
  obtain ⟨W0, hW0⟩ : ∃ W, W = w.alloc (.cells #[.int .i64 de, .int .i64 qu, .int .i64 wi, .int .i64 ti, .int .i64 qa, .int .i64 bu, .int .i64 le, .int .i64 pb, .int .i64 pc, .int .i64 pj, .int .i64 pt, .int .i64 nw, .int .i64 la, .slice ea en ec, .slice ka kn kc, .int .i64 tu, .slice fa fn fc, .slice ra rn rc, .int .i64 tk, .int .i64 ac, .int .i64 dr] 33) := ⟨_, rfl⟩
  have HA : Hid (Box W0 w.heap.size 33 [.int .i64 de, .int .i64 qu, .int .i64 wi, .int .i64 ti, .int .i64 qa, .int .i64 bu, .int .i64 le, .int .i64 pb, .int .i64 pc, .int .i64 pj, .int .i64 pt, .int .i64 nw, .int .i64 la, .slice ea en ec, .slice ka kn kc, .int .i64 tu, .slice fa fn fc, .slice ra rn rc, .int .i64 tk, .int .i64 ac, .int .i64 dr]) := Lib.hid (by rw [hW0]; exact Box.new w [.int .i64 de, .int .i64 qu, .int .i64 wi, .int .i64 ti, .int .i64 qa, .int .i64 bu, .int .i64 le, .int .i64 pb, .int .i64 pc, .int .i64 pj, .int .i64 pt, .int .i64 nw, .int .i64 la, .slice ea en ec, .slice ka kn kc, .int .i64 tu, .slice fa fn fc, .slice ra rn rc, .int .i64 tk, .int .i64 ac, .int .i64 dr] 33)
  have HL : Hid (Below w.heap.size w W0) := Lib.hid (by rw [hW0]; exact bOne _ _)
  have HT := Lib.hid (h.here HL.out).ev
  have HN := Lib.hid HT.out.row.hlen
  have hle := HT.out.row.le
  unfold maxLen at hle
  have HWE := Lib.hid hW0
  clear h hW0
  have c13 := HA.out.cell 13 _ rfl
  go_enter Tryd.func19, Tryd.ntmps19
  go_wp2_with fail
  rw [← HWE.out]
  go_loopw [7, 8] (fun nv i wr => ∃ j : Nat, j ≤ en ∧ i = .int .i64 j ∧ nv = .int .i64 (cntN d s (E.take j)) ∧ wr = W0) (fun _ i _ => en - (intOf i).toNat)
  case atStart => exact ⟨0, by omega, rfl, rfl, rfl⟩
  case round =>
    obtain ⟨j, hj, rfl, rfl, rfl⟩ := hrel
    by_cases hlt : (j : Int) < (en : Int)
    · have hjl : j < E.length := by have := HN.out; omega
      obtain ⟨b', off, i', d', c', bd', a', t', r', n', s', rfl, hb', hlj, hbd', x0, x1, x2, x3, x4, x5, x6, x7, x8⟩ := HT.out.at j hjl
      have HX := Lib.hid (cnt_next (p := isDS d s) hjl)
      have HJ := Lib.hid (show isDS d s E[j] = ((d' == d) && (s' == s)) by rw [hlj]; rfl)
      have HM := Lib.hid (cntN_le d s (E.take j))
      have HK := Lib.hid (List.length_take_le j E)
      clear hlj
      obtain ⟨m, hm⟩ : ∃ m, m = cntN d s (E.take j) := ⟨_, rfl⟩
      rw [← hm]
      have HMM := Lib.hid hm
      have hmb : m ≤ j := by have := HM.out; rw [← hm] at this; exact Nat.le_trans this HK.out
      clear hm
      cases h1 : (d' == d) with
      | false =>
        have HC := Lib.hid (show Value.int IntKind.i64 (m : Int) = Value.int IntKind.i64 (cntN d s (E.take (j + 1)) : Int) by
          have h := HX.out
          rw [HJ.out, h1] at h
          rw [HMM.out, show cntN d s (E.take (j + 1)) = cntN d s (E.take j) by unfold cntN; rw [h]; simp])
        go_wp2_with fail
        go_roundw
        case rel => exact ⟨j + 1, by omega, by go_num, HC.out, by trivial⟩
        case measure => simp [intOf]; omega
      | true =>
        cases h2 : (s' == s) with
        | false =>
          have HC := Lib.hid (show Value.int IntKind.i64 (m : Int) = Value.int IntKind.i64 (cntN d s (E.take (j + 1)) : Int) by
            have h := HX.out
            rw [HJ.out, h1, h2] at h
            rw [HMM.out, show cntN d s (E.take (j + 1)) = cntN d s (E.take j) by unfold cntN; rw [h]; simp])
          go_wp2_with fail
          go_roundw
          case rel => exact ⟨j + 1, by omega, by go_num, HC.out, by trivial⟩
          case measure => simp [intOf]; omega
        | true =>
          have HC := Lib.hid (show Value.int IntKind.i64 ((m : Int) + 1) = Value.int IntKind.i64 (cntN d s (E.take (j + 1)) : Int) by
            have h := HX.out
            rw [HJ.out, h1, h2] at h
            rw [HMM.out, show cntN d s (E.take (j + 1)) = cntN d s (E.take j) + 1 by unfold cntN; rw [h]; simp]
            simp)
          go_wp2_with fail
          go_roundw
          case rel => exact ⟨j + 1, by omega, by go_num, HC.out, by trivial⟩
          case measure => simp [intOf]; omega
    · have hjl : j = E.length := by have := HN.out; omega
      have HJ := Lib.hid hjl
      clear hjl
      go_wp2_with fail
      go_ret
      exact ⟨by rw [HJ.out, List.take_length]; rfl, HL.out⟩

end Go.Proofs.YtkndpkingmemoaaDoor.Gat
