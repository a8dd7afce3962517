/-
  The laws' marks on a new gate: written, and read again.
-/
import Derived.Test.YtecfomaapomncaaGtNs
import Derived.Test.YtecfomaapomncaaLkI
namespace Go.Proofs.Ytecfomaapomncaa.Gat
open Go.RowKit
open Lnk (bOne bAfter IOwn IIs below_keep below_drew' bcell low_after low_alloc grown_of_below mrkI markIntS_any heldIntS_any)
set_option linter.unusedVariables false

theorem mrkI_zero (q : Int) : mrkI q 0 = [] := by simp [mrkI]
theorem iis_nil (B : Nat) (w : World) (a : Option Addr) : IIs B w a 0 [] := ⟨rfl, fun k hk => by simp at hk⟩
/-- only the blocks of these two rows are written -/
def Only2 (w w' : World) (u v : Value) : Prop := w.heap.size ≤ w'.heap.size ∧ ∀ k, k < w.heap.size → some k ≠ u.ownBlock → some k ≠ v.ownBlock → w'.heap[k]? = w.heap[k]?
theorem Only2.box {w w' : World} {u v : Value} {k : Nat} {T : TypeId} {l : List Value} (h : Only2 w w' u v) (hb : Box w k T l) (h1 : some k ≠ u.ownBlock) (h2 : some k ≠ v.ownBlock) : Box w' k T l := (h.2 k hb.lt h1 h2).trans hb

set_option maxRecDepth 100000 in
set_option maxHeartbeats 4000000 in
theorem markNew (w : World) (B n : Nat) (de qu wi ti qa bu le pb pc pj pt : Int) (ka : Option Addr) (kc : Nat) (fa : Option Addr) (fc : Nat) (l : List Lr) (xs : List Int) (hn : n ≤ 1000) (hB : B ≤ w.heap.size) (hK : ROwn lrS B w 42 (.slice ka n kc) l) (hv : ∀ r ∈ l, r.v = .slice none 0 0) (hF : IOwn B w (.slice fa n fc) xs) :
    Calls Try.prog 25 #[.agg #[.int .i64 de, .int .i64 qu, .int .i64 wi, .int .i64 ti, .int .i64 qa, .int .i64 bu, .int .i64 le, .int .i64 pb, .int .i64 pc, .int .i64 pj, .int .i64 pt, .int .i64 0, .int .i64 0, .slice none 0 0, .slice ka n kc, .int .i64 0, .slice fa n fc, .slice none 0 0, .int .i64 0, .int .i64 0, .int .i64 0], .int .i64 1] w fun e w' => e = .returned (.int .i64 (1 + 3 * (n : Int) + (n : Int))) ∧ ROwn lrS B w' 42 (.slice ka n kc) (mrkL 1 n) ∧ IOwn B w' (.slice fa n fc) (mrkI (1 + 3 * (n : Int)) n) ∧ Below B w w' ∧ Only2 w w' (.slice ka n kc) (.slice fa n fc) := by
  obtain ⟨W0, hW0⟩ : ∃ W, W = w.alloc (.cells #[.int .i64 de, .int .i64 qu, .int .i64 wi, .int .i64 ti, .int .i64 qa, .int .i64 bu, .int .i64 le, .int .i64 pb, .int .i64 pc, .int .i64 pj, .int .i64 pt, .int .i64 0, .int .i64 0, .slice none 0 0, .slice ka n kc, .int .i64 0, .slice fa n fc, .slice none 0 0, .int .i64 0, .int .i64 0, .int .i64 0] 33) := ⟨_, rfl⟩
  have HX : Hid (Box W0 w.heap.size 33 [.int .i64 de, .int .i64 qu, .int .i64 wi, .int .i64 ti, .int .i64 qa, .int .i64 bu, .int .i64 le, .int .i64 pb, .int .i64 pc, .int .i64 pj, .int .i64 pt, .int .i64 0, .int .i64 0, .slice none 0 0, .slice ka n kc, .int .i64 0, .slice fa n fc, .slice none 0 0, .int .i64 0, .int .i64 0, .int .i64 0]) := Lib.hid (by rw [hW0]; exact Box.new w [.int .i64 de, .int .i64 qu, .int .i64 wi, .int .i64 ti, .int .i64 qa, .int .i64 bu, .int .i64 le, .int .i64 pb, .int .i64 pc, .int .i64 pj, .int .i64 pt, .int .i64 0, .int .i64 0, .slice none 0 0, .slice ka n kc, .int .i64 0, .slice fa n fc, .slice none 0 0, .int .i64 0, .int .i64 0, .int .i64 0] 33)
  have hb0 : Below w.heap.size w W0 := by rw [hW0]; exact bOne _ _
  have HL := Lib.hid (hb0.mono hB)
  have HO := Lib.hid (show Only2 w W0 (.slice ka n kc) (.slice fa n fc) from ⟨hb0.size, fun k hk _ _ => hb0.block k hk⟩)
  have HKl := Lib.hid (fun q (hq : (Value.slice ka n kc).ownBlock = some q) => (World.ownsRow.lt hK q hq))
  have HFl := Lib.hid (fun q (hq : (Value.slice fa n fc).ownBlock = some q) => (World.ownsRow.lt hF q hq))
  have HK := Lib.hid (hK.below hb0)
  have HF := Lib.hid (Lnk.IOwn.below hF hb0)
  have HV := Lib.hid hv
  have HWE := Lib.hid hW0
  clear hK hF hv hW0 hb0
  have x13 := HX.out.cell 13 _ rfl
  have x14 := HX.out.cell 14 _ rfl
  go_enter Try.func25, Try.ntmps25
  go_wp2_with fail
  rw [← HWE.out]
  refine (markEvents_nil _ 1).mono ?_
  rintro e w1 ⟨rfl, rfl⟩
  go_wp2_with fail
  refine (markLinkS_nil _ B ka n kc l 1 HK.out HV.out (by omega) (by omega) (by omega)).mono ?_
  rintro e w2 ⟨rfl, hk2, hg2⟩
  have HX2 := Lib.hid (HX.out.grown hg2 (fun e => by have := (HKl.out _ e.symm).2; omega))
  have HF2 := Lib.hid (HF.out.grown hg2 (rown_isep HK.out HF.out))
  have HL2 := Lib.hid (HL.out.grown hg2 (Nat.le_trans hB HL.out.size) (fun k e => (HKl.out k e).1))
  have HO2 := Lib.hid (show Only2 w w2 (.slice ka n kc) (.slice fa n fc) from ⟨Nat.le_trans HO.out.1 hg2.size, fun k hk h1 h2 => (hg2.block k (Nat.lt_of_lt_of_le hk HO.out.1) h1).trans (HO.out.2 k hk h1 h2)⟩)
  have HK2 := Lib.hid hk2
  obtain ⟨q, hq⟩ : ∃ q : Int, q = 1 + 3 * (n : Int) := ⟨_, rfl⟩
  rw [← hq]
  have hq0 : 0 ≤ q := by omega
  have hq1 : q ≤ 10000000 := by omega
  have hq2 : q + (n : Int) ≤ 10000000 := by omega
  have hq3 : 0 ≤ q + (n : Int) := by omega
  have HQ := Lib.hid hq
  clear hq
  clear hk2 hg2 x13 x14 HK HF HX HL HO
  have x16 := HX2.out.cell 16 _ rfl
  go_wp2_with fail
  refine (markIntS_any _ B fa n fc xs q HF2.out (by omega) hq0 hq1).mono ?_
  rintro e w3 ⟨rfl, hf3, hg3⟩
  have HX3 := Lib.hid (HX2.out.grown hg3 (fun e => by have := (HFl.out _ e.symm).2; omega))
  have HK3 := Lib.hid (HK2.out.grown hg3 (isep_flip (rown_isep HK2.out HF2.out)))
  have HL3 := Lib.hid (HL2.out.grown hg3 (Nat.le_trans hB HL2.out.size) (fun k e => (HFl.out k e).1))
  have HO3 := Lib.hid (show Only2 w w3 (.slice ka n kc) (.slice fa n fc) from ⟨Nat.le_trans HO2.out.1 hg3.size, fun k hk h1 h2 => (hg3.block k (Nat.lt_of_lt_of_le hk HO2.out.1) h2).trans (HO2.out.2 k hk h1 h2)⟩)
  have HF3 := Lib.hid hf3
  clear hf3 hg3 x16 HK2 HF2 HX2 HL2 HO2
  have x17 := HX3.out.cell 17 _ rfl
  go_wp2_with fail
  refine (markIntS_any _ B none 0 0 [] (q + (n : Int)) (Lnk.IOwn.nil _ _) (by omega) hq3 hq2).mono ?_
  rintro e w4 ⟨rfl, _, hg4⟩
  have HK4 := Lib.hid (HK3.out.grown hg4 (by cases (Value.slice ka n kc).ownBlock with | none => exact .inl rfl | some k => exact .inr (by simp [Value.ownBlock])))
  have HF4 := Lib.hid (Lnk.IOwn.grown HF3.out hg4 (by cases (Value.slice fa n fc).ownBlock with | none => exact .inl rfl | some k => exact .inr (by simp [Value.ownBlock])))
  have HL4 := Lib.hid (HL3.out.grown hg4 (Nat.le_trans hB HL3.out.size) (fun k e => by cases e))
  have HO4 := Lib.hid (show Only2 w w4 (.slice ka n kc) (.slice fa n fc) from ⟨Nat.le_trans HO3.out.1 hg4.size, fun k hk h1 h2 => (hg4.block k (Nat.lt_of_lt_of_le hk HO3.out.1) (by simp [Value.ownBlock])).trans (HO3.out.2 k hk h1 h2)⟩)
  clear hg4
  go_wp2_with fail
  go_ret
  refine ⟨?_, HK4.out, by rw [← HQ.out]; exact HF4.out, HL4.out, HO4.out⟩
  rw [← HQ.out]
  rfl

set_option maxRecDepth 100000 in
set_option maxHeartbeats 4000000 in
theorem heldNew (w : World) (n : Nat) (de qu wi ti qa bu le pb pc pj pt : Int) (ka : Option Addr) (kc : Nat) (fa : Option Addr) (fc : Nat) (hn : n ≤ 1000) (hK : RIs lrS w.heap.size w ka n (mrkL 1 n)) (hF : IIs w.heap.size w fa n (mrkI (1 + 3 * (n : Int)) n)) :
    Calls Try.prog 26 #[.agg #[.int .i64 de, .int .i64 qu, .int .i64 wi, .int .i64 ti, .int .i64 qa, .int .i64 bu, .int .i64 le, .int .i64 pb, .int .i64 pc, .int .i64 pj, .int .i64 pt, .int .i64 0, .int .i64 0, .slice none 0 0, .slice ka n kc, .int .i64 0, .slice fa n fc, .slice none 0 0, .int .i64 0, .int .i64 0, .int .i64 0], .int .i64 1] w fun e w' => e = .returned (.int .i64 (1 + 3 * (n : Int) + (n : Int))) ∧ Below w.heap.size w w' := by
  obtain ⟨W0, hW0⟩ : ∃ W, W = w.alloc (.cells #[.int .i64 de, .int .i64 qu, .int .i64 wi, .int .i64 ti, .int .i64 qa, .int .i64 bu, .int .i64 le, .int .i64 pb, .int .i64 pc, .int .i64 pj, .int .i64 pt, .int .i64 0, .int .i64 0, .slice none 0 0, .slice ka n kc, .int .i64 0, .slice fa n fc, .slice none 0 0, .int .i64 0, .int .i64 0, .int .i64 0] 33) := ⟨_, rfl⟩
  have HX : Hid (Box W0 w.heap.size 33 [.int .i64 de, .int .i64 qu, .int .i64 wi, .int .i64 ti, .int .i64 qa, .int .i64 bu, .int .i64 le, .int .i64 pb, .int .i64 pc, .int .i64 pj, .int .i64 pt, .int .i64 0, .int .i64 0, .slice none 0 0, .slice ka n kc, .int .i64 0, .slice fa n fc, .slice none 0 0, .int .i64 0, .int .i64 0, .int .i64 0]) := Lib.hid (by rw [hW0]; exact Box.new w [.int .i64 de, .int .i64 qu, .int .i64 wi, .int .i64 ti, .int .i64 qa, .int .i64 bu, .int .i64 le, .int .i64 pb, .int .i64 pc, .int .i64 pj, .int .i64 pt, .int .i64 0, .int .i64 0, .slice none 0 0, .slice ka n kc, .int .i64 0, .slice fa n fc, .slice none 0 0, .int .i64 0, .int .i64 0, .int .i64 0] 33)
  have HL : Hid (Below w.heap.size w W0) := Lib.hid (by rw [hW0]; exact bOne _ _)
  have HK := Lib.hid (hK.below HL.out)
  have HF := Lib.hid (hF.below HL.out)
  have HWE := Lib.hid hW0
  clear hK hF hW0
  have x13 := HX.out.cell 13 _ rfl
  have x14 := HX.out.cell 14 _ rfl
  have x16 := HX.out.cell 16 _ rfl
  have x17 := HX.out.cell 17 _ rfl
  go_enter Try.func26, Try.ntmps26
  go_wp2_with fail
  rw [← HWE.out]
  refine (heldEvents_nil _ 1).mono ?_
  rintro e w1 ⟨rfl, rfl⟩
  go_wp2_with fail
  refine (heldLinkS_nil _ w.heap.size ka n kc 1 HK.out (by omega) (by omega) (by omega)).mono ?_
  rintro e w2 ⟨rfl, rfl⟩
  obtain ⟨q, hq⟩ : ∃ q : Int, q = 1 + 3 * (n : Int) := ⟨_, rfl⟩
  rw [← hq] at HF ⊢
  have hq0 : 0 ≤ q := by omega
  have hq1 : q ≤ 10000000 := by omega
  have hqn : ¬ q < 0 := by omega
  have hq2 : q + (n : Int) ≤ 10000000 := by omega
  have hq3 : 0 ≤ q + (n : Int) := by omega
  have hqn2 : ¬ q + (n : Int) < 0 := by omega
  have HQ := Lib.hid hq
  clear hq
  go_wp2_with fail
  refine (heldIntS_any _ w.heap.size fa n fc q HF.out (by omega) hq0 hq1).mono ?_
  rintro e w3 ⟨rfl, rfl⟩
  go_wp2_with fail
  refine (heldIntS_any _ w.heap.size none 0 0 (q + (n : Int)) (by rw [mrkI_zero]; exact iis_nil _ _ _) (by omega) hq3 hq2).mono ?_
  rintro e w4 ⟨rfl, rfl⟩
  go_wp2_with fail
  go_ret
  refine ⟨?_, HL.out⟩
  rw [← HQ.out]
  rfl

end Go.Proofs.Ytecfomaapomncaa.Gat
