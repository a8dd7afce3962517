/-
  The walk of the program's Words: a range over a function that tells the words.
-/
import Derived.RangeFuncNested
import Derived.RangeFuncBound
import Derived.RangeFuncCalls
import Derived.RangeFuncLeaves
import Derived.RangeFuncBox
import Derived.Shelf.Abstract
import Derived.Shelf.RegionOpen
import Derived.WalkKit
import Derived.OwnWalkIn
import Derived.TacticsInMore
import Derived.LoopNIn
import Derived.LoopIn
import Derived.Maps.AppendAt
import Derived.WalkMore
import Derived.Test.YtkpmbpfdlcdeaaaDoorWordS
namespace Go.Proofs.YtkpmbpfdlcdeaaaDoor.Word
open Go.RowKit Go.Shelf Go.Proofs.YtkpmbpfdlcdeaaaDoor.Kit
set_option linter.unusedVariables false
attribute [local go_sem] Oper.semAt_some

/-- what stands at the head of the teller's round -/
def TellRel (s : ByteArray) (J : List ByteArray → World → Prop) (k f : Nat) (wr : World) : Prop := (k ≤ s.size ∧ Cur s f k ∧ J (bts (st s k).1) wr) ∨ (k = s.size + 1 ∧ J (wdsB s) wr)
theorem tell_next {s : ByteArray} {J : List ByteArray → World → Prop} {k : Nat} {wr : World} (hk : k ≤ s.size) (hg : ∀ h : k < s.size, isGap s[k]) (hJ : J (bts (flush (st s k))) wr) : TellRel s J (k + 1) (k + 1) wr := by
  by_cases h : k < s.size
  · refine .inl ⟨by omega, Cur.gap h (hg h), ?_⟩
    rw [st_gap s k h (hg h)]; exact hJ
  · obtain rfl : k = s.size := by omega
    exact .inr ⟨rfl, hJ⟩
theorem tell_on {s : ByteArray} {J : List ByteArray → World → Prop} {k f : Nat} {wr : World} (hk : k < s.size) (hg : ¬ isGap s[k]) (hc : Cur s f k) (hJ : J (bts (st s k).1) wr) : TellRel s J (k + 1) f wr :=
  .inl ⟨by omega, hc.next hk hg, by rw [st_not s k hk hg]; exact hJ⟩

set_option maxRecDepth 100000 in
set_option maxHeartbeats 1000000 in
theorem tell_in (l Bn : Nat) (s : ByteArray) (hs : s.size ≤ 1048576) (J Jx : List ByteArray → World → Prop)
    (hY : ∀ pre x W, J pre W → pre.length < s.size + 1 → YieldAt Fence.wide 2 Tryd.prog l #[.string x] W fun e W' =>
      (e = .returned (.bool true) ∧ J (pre ++ [x]) W' ∧ W'.heap[Bn]? = W.heap[Bn]?) ∨ (e = .returned (.bool false) ∧ Jx (pre ++ [x]) W'))
    (W : World) (hc : W.cell? ⟨Bn, 0, none⟩ = some (.string s)) (h0 : J [] W) :
    CallsIn Fence.wide 3 Tryd.prog 42 #[.func (.yield l) #[] #[], .pointer (some ⟨Bn, 0, none⟩)] W fun e W' => (∃ v, e = .returned v) ∧
      ((∃ ys, ys = wdsB s ∧ J ys W') ∨ (∃ pre, True ∧ Jx pre W')) := by
  refine callsIn_of_wp Tryd.func42 rfl trivial ?_ rfl
  simp only [Tryd.ntmps42, List.size_toArray, List.length_cons, List.length_nil, Nat.reduceAdd, Nat.reduceSub, Array.replicate_succ, Array.replicate_zero, List.push_toArray, List.append_toArray, List.nil_append, List.cons_append]
  refine wpIn_wide.2 (wp_scope_straight ((wpIn_wide (n := 3)).1 ?_))
  gi_wp2
  refine wpIn_label ?_
  gi_wp2
  gi_loopw [3, 4] (fun sv en wr => ∃ k f : Nat, en = .int .i64 k ∧ sv = .int .i64 f ∧ k ≤ s.size + 1 ∧ TellRel s J k f wr ∧ Hid (wr.heap[Bn]? = W.heap[Bn]?)) (fun _ en _ => s.size + 1 - (intOf en).toNat)
  case atStart => exact ⟨0, 0, rfl, rfl, by omega, .inl ⟨by omega, Cur.new (by omega) (by rw [st_zero]), by rw [st_zero]; exact h0⟩, Lib.hid rfl⟩
  case round =>
    obtain ⟨k, f, rfl, rfl, hk, hT, hB⟩ := hrel
    have hcr : wr.cell? ⟨Bn, 0, none⟩ = some (.string s) := (World.cell?_of_block (w := W) hB.out).trans hc
    rcases hT with ⟨hks, hC, hJ⟩ | ⟨hke, hJ⟩
    · have HC := Lib.hid hC
      clear hC
      have hf1 := HC.out.1
      by_cases hlt : (k : Int) < (s.size : Int)
      · by_cases hg : isGap s[k]
        · have HG := Lib.hid hg
          clear hg
          by_cases hfk : f = k
          · subst hfk
            have HJ : Hid (J (bts (flush (st s f))) wr) := by rw [flush_none (HC.out.none_iff.2 rfl)]; exact hJ
            gi_wp2_with (refine ⟨trivial, ?_⟩; gi_at_call 43; refine (callsIn_wide.2 (gap_yes _ _ HG.out)).mono ?_; rintro e w' ⟨rfl, rfl⟩)
            go_roundw
            case rel => exact ⟨f + 1, f + 1, by go_num, by go_num, by omega, tell_next hks (fun _ => HG.out) HJ.out, hB⟩
            case measure => simp [intOf]; omega
          · have hlt2 : f < k := by have := HC.out.1; omega
            have hne : (st s k).2 ≠ [] := by rw [Ne, HC.out.none_iff]; exact hfk
            have hdd : ((f : Int) == (k : Int)) = false := by rw [beq_eq_false_iff_ne]; omega
            have HT := Lib.hid HC.out.text
            have HF := Lib.hid (flush_some hne)
            obtain ⟨fn, tmps, assign, body, hy, hR⟩ := hY (bts (st s k).1) (s.extract f k) wr hJ (by rw [bts_len]; have := one_le s k; omega)
            clear hne
            gi_wp2_with (refine ⟨trivial, ?_⟩; gi_at_call 43; refine (callsIn_wide.2 (gap_yes _ _ HG.out)).mono ?_; rintro e w' ⟨rfl, rfl⟩)
            refine hR.mono ?_
            rintro e W3 (⟨rfl, hJ3, hk3'⟩ | ⟨rfl, hJx3⟩)
            · have hk3 := Lib.hid hk3'
              clear hk3'
              have HJ : Hid (J (bts (flush (st s k))) W3) := by rw [HF.out, bts_snoc, HT.out]; exact hJ3
              gi_wp2
              go_roundw
              case rel => exact ⟨k + 1, k + 1, by go_num, by go_num, by omega, tell_next hks (fun _ => HG.out) HJ.out, Lib.hid (hk3.out.trans hB.out)⟩
              case measure => simp [intOf]; omega
            · gi_wp2
              rw [Exit.noGoto_normal]
              go_end0
              exact ⟨⟨_, rfl⟩, .inr ⟨_, trivial, hJx3⟩⟩
        · have HG := Lib.hid hg
          clear hg
          gi_wp2_with (refine ⟨trivial, ?_⟩; gi_at_call 43; refine (callsIn_wide.2 (gap_no _ _ HG.out)).mono ?_; rintro e w' ⟨rfl, rfl⟩)
          go_roundw
          case rel => exact ⟨k + 1, f, by go_num, rfl, by omega, tell_on (by omega) HG.out HC.out hJ, hB⟩
          case measure => simp [intOf]; omega
      · have hkz : k = s.size := by omega
        have HKZ := Lib.hid hkz
        clear hkz
        by_cases hfk : f = k
        · subst hfk
          have HJ : Hid (J (bts (flush (st s f))) wr) := by rw [flush_none (HC.out.none_iff.2 rfl)]; exact hJ
          gi_wp2
          refine ⟨trivial, ?_⟩
          gi_wp2
          go_roundw
          case rel => exact ⟨f + 1, f + 1, by go_num, by go_num, by omega, tell_next hks (fun h => by have := HKZ.out; omega) HJ.out, hB⟩
          case measure => simp [intOf]; omega
        · have hlt2 : f < k := by have := HC.out.1; omega
          have hne : (st s k).2 ≠ [] := by rw [Ne, HC.out.none_iff]; exact hfk
          have hdd : ((f : Int) == (k : Int)) = false := by rw [beq_eq_false_iff_ne]; omega
          have HT := Lib.hid HC.out.text
          have HF := Lib.hid (flush_some hne)
          obtain ⟨fn, tmps, assign, body, hy, hR⟩ := hY (bts (st s k).1) (s.extract f k) wr hJ (by rw [bts_len]; have := one_le s k; omega)
          clear hne
          gi_wp2
          refine ⟨trivial, ?_⟩
          gi_wp2
          refine hR.mono ?_
          rintro e W3 (⟨rfl, hJ3, hk3'⟩ | ⟨rfl, hJx3⟩)
          · have hk3 := Lib.hid hk3'
            clear hk3'
            have HJ : Hid (J (bts (flush (st s k))) W3) := by rw [HF.out, bts_snoc, HT.out]; exact hJ3
            gi_wp2
            go_roundw
            case rel => exact ⟨k + 1, k + 1, by go_num, by go_num, by omega, tell_next hks (fun h => by have := HKZ.out; omega) HJ.out, Lib.hid (hk3.out.trans hB.out)⟩
            case measure => simp [intOf]; omega
          · gi_wp2
            rw [Exit.noGoto_normal]
            go_end0
            exact ⟨⟨_, rfl⟩, .inr ⟨_, trivial, hJx3⟩⟩
    · have hgt : (s.size : Int) < (k : Int) := by omega
      gi_wp2
      rw [Exit.noGoto_normal]
      go_end0
      exact ⟨⟨_, rfl⟩, .inl ⟨_, rfl, hJ⟩⟩
end Go.Proofs.YtkpmbpfdlcdeaaaDoor.Word
