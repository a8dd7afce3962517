/-
  The walk of the specification's l05Ids.
-/
import Derived.Test.YtecfomaapomncaaLkC
namespace Go.Proofs.Ytecfomaapomncaa.Lnk
open Go.RowKit
open Go.Proofs.Ytecfomaapomncaa.Kit (append_one)
set_option linter.unusedVariables false

set_option maxRecDepth 100000 in
set_option maxHeartbeats 1000000 in
theorem specIds_any (w : World) (a : Option Addr) (len cap : Nat) (up : Bool) (ep sq : Int) (l : List Y) (h : YIs w.heap.size w a len l) (hlen : len ≤ 1100000) :
    Calls Try.prog 85 #[.agg #[.bool up, .int .i64 ep, .int .i64 sq, .slice a len cap]] w fun e w' => IntsEnd w w' (idsL l) e := by
  obtain ⟨i0, hi, hz0, hz1, hz2⟩ := info_parts infoInt
  have hb0 := bOne w (.cells #[.bool up, .int .i64 ep, .int .i64 sq, .slice a len cap] 42)
  have hs0 : (w.alloc (.cells #[.bool up, .int .i64 ep, .int .i64 sq, .slice a len cap] 42)).heap.size = w.heap.size + 1 := by simp
  have hq := ilit (w.alloc (.cells #[.bool up, .int .i64 ep, .int .i64 sq, .slice a len cap] 42))
  have hx := B4.new w up ep sq (.slice a len cap) 42
  have HT := Lib.hid (h.below hb0)
  have HL := Lib.hid h.hlen
  rw [hs0] at hq
  obtain ⟨W, hW⟩ : ∃ W, W = w.alloc (.cells #[.bool up, .int .i64 ep, .int .i64 sq, .slice a len cap] 42) := ⟨_, rfl⟩
  rw [← hW] at hb0 hs0 hq hx HT
  have HB0 := Lib.hid hb0
  have HS0 := Lib.hid hs0
  have HQ := Lib.hid hq
  have HX := Lib.hid hx
  have HB1 := Lib.hid (show Below (w.heap.size + 1) W (W.alloc (.cells #[] 3)) from by have := bOne W (.cells #[] 3); rwa [hs0] at this)
  have HWE := Lib.hid hW
  clear h hb0 hs0 hq hx hW
  go_enter Try.func85, Try.ntmps85
  go_wp2_with fail
  rw [← HWE.out]
  go_loopw [3, 4] (fun vi i wr => ∃ j : Nat, j ≤ len ∧ i = .int .i64 j ∧ Hid (IOwn (w.heap.size + 1) wr vi (idsL (l.take j))) ∧ Hid (Below (w.heap.size + 1) W wr)) (fun _ i _ => len - (intOf i).toNat)
  case atStart => exact ⟨0, by omega, rfl, HQ, HB1⟩
  case round =>
    obtain ⟨j, hj, rfl, HO, HB⟩ := hrel
    have HX2 := Lib.hid (HX.out.low HB.out (by omega))
    obtain ⟨c0, c1, c2, c3, hlt0⟩ := HX2.out.cells
    have HWS := Lib.hid (show w.heap.size + 1 ≤ wr.heap.size by omega)
    by_cases hlt : (j : Int) < (len : Int)
    · have hjd : j < l.length := by have := HL.out; omega
      obtain ⟨b', off, rfl, hbw, e0, e1, e2⟩ := (HT.out.below (HB.out.mono (by omega))).cell j hjd
      obtain ⟨q, hq⟩ : ∃ q, q = l[j].2.1 := ⟨_, rfl⟩
      have HQE := Lib.hid hq
      rw [← hq] at e1
      clear hq e0 e2
      have hbw2 : b' < wr.heap.size := by omega
      have hown : wr.ownsRow (w.heap.size + 1) 3 1 u3 j ((idsL (l.take j)).map fun x => .int .i64 x) := by
        have := HO.out
        unfold IOwn at this
        simpa [idsL, Nat.min_eq_left (show j ≤ l.length by omega)] using this
      have HOWN := Lib.hid hown
      have HSW := Lib.hid (show w.heap.size + 1 ≤ W.heap.size by rw [HS0.out]; exact Nat.le_refl _)
      clear hown
      go_wp2_with (first | (at_builtin; refine append_one rfl _ _ 31 rfl 3 i0 _ 8 Try.underlying31 hi hz0 hz1 hz2 rfl (by decide) rfl HOWN.out rfl rfl (by omega) HB.out HSW.out ?_; intro v' w' hown' hbel' _ _; have HO' := Lib.hid hown'; have HB' := Lib.hid hbel'; clear hown' hbel') | fail)
      go_roundw
      case rel =>
        refine ⟨j + 1, by omega, by go_num, Lib.hid ?_, HB'⟩
        have h1 := HO'.out
        have h2 : idsL (l.take (j + 1)) = idsL (l.take j) ++ [q] := by
          unfold idsL
          rw [List.take_succ_eq_append_getElem hjd, HQE.out, List.map_append, List.map_cons, List.map_nil]
        rw [h2]
        unfold IOwn
        simpa [idsL, Nat.min_eq_left (show j ≤ l.length by omega)] using h1
      case measure => simp [intOf]; omega
    · have hjd : j = l.length := by have := HL.out; omega
      have hO := HO.out
      rw [hjd, List.take_length] at hO
      obtain ⟨a', c', rfl⟩ := hO.shape
      have HO2 := Lib.hid hO
      clear hO hjd
      go_wp2_with fail
      go_ret
      exact ⟨⟨a', c', rfl, HO2.out.base (by omega)⟩, HB0.out.trans (HB.out.mono (by omega))⟩

end Go.Proofs.Ytecfomaapomncaa.Lnk
