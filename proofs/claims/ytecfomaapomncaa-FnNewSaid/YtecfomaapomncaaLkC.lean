/-
  The walks of the queue's put and part, of land and of flyingIds.
-/
import Derived.Test.YtecfomaapomncaaLkB
import Derived.Test.YtecfomaapomncaaKit
import Derived.Deep.RegionLaw
import Derived.Deep.RegionWith
namespace Go.Proofs.Ytecfomaapomncaa.Lnk
open Go.RowKit
open Go.Proofs.Ytecfomaapomncaa.Kit (append_one)
set_option linter.unusedVariables false

theorem YOwn.lecap {B : Nat} {w : World} {E : TypeId} {a : Option Addr} {n cap : Nat} {l : List Y} (h : YOwn B w E (.slice a n cap) l) : n ≤ cap := by
  rcases h.2 with ⟨e, h0⟩ | ⟨g, c, cur, e, hb, hg, hn, hm, hs, ht⟩
  · simp only [Value.slice.injEq] at e
    omega
  · simp only [Value.slice.injEq] at e
    obtain ⟨rfl, rfl, rfl⟩ := e
    exact hn

/-- ints that were handed back -/
def IntsEnd (w w' : World) (xs : List Int) (e : Ending) : Prop := (∃ a cap, e = .returned (.slice a xs.length cap) ∧ IOwn w.heap.size w' (.slice a xs.length cap) xs) ∧ Below w.heap.size w w'

set_option maxRecDepth 100000 in
set_option maxHeartbeats 1000000 in
theorem flyingIds_any (w : World) (a : Option Addr) (len cap : Nat) (l : List Y) (h : YIs w.heap.size w a len l) (hlen : len ≤ 1100000) :
    Calls Try.prog 76 #[.slice a len cap] w fun e w' => IntsEnd w w' (idsL l) e := by
  obtain ⟨i0, hi, hz0, hz1, hz2⟩ := info_parts infoInt
  have HL := Lib.hid h.hlen
  have HT := Lib.hid h
  clear h
  go_enter Try.func76, Try.ntmps76
  go_wp2_with fail
  go_loopw [3, 8] (fun vi i wr => ∃ j : Nat, j ≤ len ∧ i = .int .i64 j ∧ Hid (IOwn w.heap.size wr vi (idsL (l.take j))) ∧ Hid (Below w.heap.size w wr)) (fun _ i _ => len - (intOf i).toNat)
  case atStart => exact ⟨0, by omega, rfl, Lib.hid (IOwn.nil _ _), Lib.hid (Below.refl _ _)⟩
  case round =>
    obtain ⟨j, hj, rfl, HO, HB⟩ := hrel
    by_cases hlt : (j : Int) < (len : Int)
    · have hjd : j < l.length := by have := HL.out; omega
      obtain ⟨b', off, rfl, hbw, e0, e1, e2⟩ := (HT.out.below HB.out).cell j hjd
      obtain ⟨p, hp⟩ : ∃ p, p = l[j].1 := ⟨_, rfl⟩
      obtain ⟨q, hq⟩ : ∃ q, q = l[j].2.1 := ⟨_, rfl⟩
      obtain ⟨r, hr⟩ : ∃ r, r = l[j].2.2 := ⟨_, rfl⟩
      have HQ := Lib.hid hq
      rw [← hp] at e0
      rw [← hq] at e1
      rw [← hr] at e2
      clear hp hq hr
      have hown : (wr.alloc (.cells #[.int .i64 p, .int .i64 q, .int .i64 r] 96)).ownsRow w.heap.size 3 1 u3 j ((idsL (l.take j)).map fun x => .int .i64 x) := by
        have := World.ownsRow.alloc HO.out (.cells #[.int .i64 p, .int .i64 q, .int .i64 r] 96)
        simpa [idsL, Nat.min_eq_left (show j ≤ l.length by omega)] using this
      have hbel : Below w.heap.size w (wr.alloc (.cells #[.int .i64 p, .int .i64 q, .int .i64 r] 96)) := HB.out.alloc HB.out.size _
      have HOWN := Lib.hid hown
      have HBEL := Lib.hid hbel
      have HSZ := Lib.hid (show (wr.alloc (.cells #[.int .i64 p, .int .i64 q, .int .i64 r] 96)).heap.size = wr.heap.size + 1 by simp)
      clear hown hbel
      go_wp2_with (first | (at_builtin; refine append_one rfl _ _ 31 rfl 3 i0 _ 8 Try.underlying31 hi hz0 hz1 hz2 rfl (by decide) rfl HOWN.out (by rw [HSZ.out]; rfl) rfl (by omega) HBEL.out (Nat.le_refl _) ?_; intro v' w' hown' hbel' _ _; have HO' := Lib.hid hown'; have HB' := Lib.hid hbel'; clear hown' hbel') | fail)
      go_roundw
      case rel =>
        refine ⟨j + 1, by omega, by go_num, Lib.hid ?_, HB'⟩
        have h1 := HO'.out
        have h2 : idsL (l.take (j + 1)) = idsL (l.take j) ++ [q] := by
          unfold idsL
          rw [List.take_succ_eq_append_getElem hjd, HQ.out, List.map_append, List.map_cons, List.map_nil]
        rw [h2]
        unfold IOwn
        simpa [idsL, Nat.min_eq_left (show j ≤ l.length by omega)] using h1
      case measure => simp [intOf]; omega
    · have hjd : j = l.length := by have := HL.out; omega
      have hO := HO.out
      rw [hjd, List.take_length] at hO
      obtain ⟨a', c', rfl⟩ := hO.shape
      have HO2 := Lib.hid hO
      clear hO hjd
      go_wp2_with fail
      go_ret
      exact ⟨⟨a', c', rfl, HO2.out⟩, HB.out⟩

/-- what part hands back -/
def PartEnd (w w' : World) (l m : List Y) (e : Ending) : Prop :=
  (∃ a cap a2 cap2, e = .returned (.tuple #[.slice a l.length cap, .slice a2 m.length cap2]) ∧ YOwn w.heap.size w' 96 (.slice a l.length cap) l ∧ YOwn w.heap.size w' 96 (.slice a2 m.length cap2) m) ∧ Below w.heap.size w w'

/-- what hands back a link and ints -/
def LandEnd (w w' : World) (up : Bool) (ep sq : Int) (l : List Y) (xs : List Int) (e : Ending) : Prop :=
  (∃ a cap a2 cap2, e = .returned (.tuple #[.agg #[.bool up, .int .i64 ep, .int .i64 sq, .slice a l.length cap], .slice a2 xs.length cap2]) ∧ YOwn w.heap.size w' 96 (.slice a l.length cap) l ∧ IOwn w.heap.size w' (.slice a2 xs.length cap2) xs) ∧ Below w.heap.size w w'

end Go.Proofs.Ytecfomaapomncaa.Lnk
