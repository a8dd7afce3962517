/-
  NewGate of the specification: the walk.
-/
import Derived.Test.YtecfomaapomncaaGtN
import Derived.Test.YtecfomaapomncaaKit
namespace Go.Proofs.Ytecfomaapomncaa.Gat
open Go.RowKit
open Lnk (bOne bAfter IOwn IIs below_keep below_drew' bcell low_after low_alloc grown_of_below)
set_option linter.unusedVariables false

/-- a link's zero appended to a row of the call's own -/
theorem append_lr {ops : Array Oper} {rest : List Oper} {o : Oper} {a : Act} {Q : Exit → Act → World → Prop} (hgd : o.guard = none) (s x : Operand)
    (ho : o.op = .call { callee := .builtin .append, args := #[s, x], argTypes := #[30, 30] }) (hty : o.type = 30)
    {B : Nat} {w : World} {v : Value} {l : List Lr} (hs : a.eval s = v) (hown : ROwn lrS B w 42 v l)
    (hx : a.eval x = .slice (some ⟨w.heap.size, 0, none⟩) 1 1) (hn : l.length ≤ 1000) (hB : B ≤ w.heap.size)
    (h : ∀ v' w', ROwn lrS B w' 42 v' (l ++ [lr0]) → w.grownBy w' v.ownBlock → wpList Try.prog ops Q rest (a.put o.dst v') w') :
    wpList Try.prog ops Q (o :: rest) a (w.alloc (.cells #[.bool false, .int .i64 0, .int .i64 0, .slice none 0 0] 42)) := by
  obtain ⟨i0, hi, hz0, hz1, hz2⟩ := info_parts infoLink
  have ho1 : (w.alloc (.cells #[.bool false, .int .i64 0, .int .i64 0, .slice none 0 0] 42)).ownsRow B 42 4 v l.length (flatF lrS l) := World.ownsRow.alloc hown _
  obtain ⟨v', w', hr, h2, h3, _, h5⟩ := run_append_own_at (P := Try.prog) _ B 30 30 42 i0 _ 4 48 Try.underlying30 hi hz0 hz1 hz2 rfl (by omega) v l.length (flatF lrS l) ho1 ⟨w.heap.size, 0, none⟩ 1 1 lr0.vals rfl (fun j u hu => by
    have hadd : (⟨w.heap.size, 0, none⟩ : Addr).add j = ⟨w.heap.size, j, none⟩ := by unfold Addr.add; split <;> simp_all
    rw [hadd, cell_of_row _ _ j _ 42 (0, 0) (heap_alloc_new w _)]
    have hj : j < 4 := (List.getElem?_eq_some_iff.1 hu).1
    rcases (show j = 0 ∨ j = 1 ∨ j = 2 ∨ j = 3 by omega) with rfl | rfl | rfl | rfl <;> exact hu) (fun u hu => by
      simp [Lr.vals, lr0] at hu
      rcases hu with rfl | rfl | rfl <;> rfl) (by unfold maxLen; omega) (by omega) (by simp; omega)
  refine Lnk.wpList_append_run hgd s x 30 ho v _ hs hx (R := fun v1 w1 => v1 = v' ∧ w1 = w') ⟨v', w', by rw [hty]; exact hr, rfl, rfl⟩ ?_
  rintro _ _ ⟨rfl, rfl⟩
  refine h _ _ ?_ ((World.grownBy_alloc w _ _).trans h3)
  unfold ROwn
  rw [List.length_append, flatF_app]
  exact h2
theorem rown_isep {B Bi : Nat} {w : World} {v vi : Value} {l : List Lr} {xs : List Int} (h : ROwn lrS B w 42 v l) (hi : IOwn Bi w vi xs) : vi.ownBlock = none ∨ vi.ownBlock ≠ v.ownBlock := by
  rcases hi.2 with ⟨e, _⟩ | ⟨g, c, cur, e, hb, hg, _⟩
  · left; rw [e]; rfl
  · right
    rw [e]
    intro e2
    rcases h.2 with ⟨e3, _⟩ | ⟨g', c', cur', e3, hb', hg', _⟩
    · rw [e3] at e2; simp [Value.ownBlock] at e2
    · rw [e3] at e2
      simp only [Value.ownBlock, Option.some.injEq] at e2
      subst e2
      rw [hg] at hg'
      simp only [Option.some.injEq, Obj.cells.injEq] at hg'
      exact absurd hg'.2.1 (by decide)
theorem ROwn.shapeN {α : Type} {S : Shp α} {B : Nat} {w : World} {E : TypeId} {v : Value} {l : List α} (h : ROwn S B w E v l) (n : Nat) (hn : l.length = n) : ∃ a cap, v = .slice a n cap := by
  subst hn
  exact h.shape
theorem IOwn.shapeN {B : Nat} {w : World} {v : Value} {l : List Int} (h : IOwn B w v l) (n : Nat) (hn : l.length = n) : ∃ a cap, v = .slice a n cap := by
  subst hn
  exact Lnk.IOwn.shape h
theorem rep_snoc {α : Type} (n : Nat) (x : α) : List.replicate n x ++ [x] = List.replicate (n + 1) x := by
  rw [List.replicate_succ']

theorem left_low {B kx j fc : Nat} {w : World} {fa : Option Addr} (h : IOwn B w (.slice fa j fc) (List.replicate j 0)) (hk : kx < B) (v : Value) :
    (w.setCell ⟨kx, 14, none⟩ v).ownsRow B 3 1 (.slice fa j fc) j (List.replicate j (.int .i64 0)) := by
  have h1 := Lnk.IOwn.setLow h (p := ⟨kx, 14, none⟩) hk v
  unfold Lnk.IOwn at h1
  simpa using h1
theorem left_snoc {B j : Nat} {w : World} {v : Value} (h : w.ownsRow B 3 1 v (j + 1) (List.replicate j (.int .i64 0) ++ [.int .i64 0])) : IOwn B w v (List.replicate (j + 1) 0) := by
  unfold Lnk.IOwn
  rw [rep_snoc] at h
  simpa using h
theorem own_left {B j : Nat} {w : World} {v : Value} (h : w.ownsRow B 3 1 v j (List.replicate j (.int .i64 0))) : IOwn B w v (List.replicate j 0) := by
  unfold Lnk.IOwn
  simpa using h
theorem isep_flip {v vi : Value} (h : vi.ownBlock = none ∨ vi.ownBlock ≠ v.ownBlock) : v.ownBlock = none ∨ v.ownBlock ≠ vi.ownBlock := by
  rcases h with h | h
  · cases hv : v.ownBlock with
    | none => exact .inl rfl
    | some q => exact .inr (by rw [h]; simp)
  · exact .inr (Ne.symm h)
/-- a new gate that was handed back, its lists as read -/
def SNewEnd (w w' : World) (n : Nat) (qu wi ti qa bu le pb pc pj pt : Int) (e : Ending) : Prop :=
  (∃ ka kc fa fc, e = .returned (.agg #[.int .i64 n, .int .i64 qu, .int .i64 wi, .int .i64 ti, .int .i64 qa, .int .i64 bu, .int .i64 le, .int .i64 pb, .int .i64 pc, .int .i64 pj, .int .i64 pt, .int .i64 0, .int .i64 0, .slice none 0 0, .slice ka n kc, .int .i64 0, .slice fa n fc, .slice none 0 0, .int .i64 0, .int .i64 0, .int .i64 0]) ∧ LIs w'.heap.size w' ka n (List.replicate n lk0) ∧ IIs w'.heap.size w' fa n (List.replicate n 0)) ∧ Below w.heap.size w w'
theorem lis_rep {B : Nat} {w : World} {E : TypeId} {a : Option Addr} {n c : Nat} (h : ROwn lrS B w E (.slice a n c) (List.replicate n lr0)) : LIs w.heap.size w a n (List.replicate n lk0) := by
  refine ⟨List.replicate n lr0, h.isN, by simp, fun k hk hk' => ?_⟩
  rw [List.getElem_replicate, List.getElem_replicate]
  exact ⟨rfl, rfl, rfl, none, 0, 0, rfl, Lnk.YIs.nil _ _ _⟩

set_option maxRecDepth 100000 in
set_option maxHeartbeats 4000000 in
theorem specNew_no (w : World) (de qu wi ti qa bu le pb pc pj pt : Int) (hno : cfgB de qu wi ti qa bu le pb pc pj pt = false) :
    Calls Try.prog 13 #[.agg #[.int .i64 de, .int .i64 qu, .int .i64 wi, .int .i64 ti, .int .i64 qa, .int .i64 bu, .int .i64 le, .int .i64 pb, .int .i64 pc, .int .i64 pj, .int .i64 pt]] w fun e w' => e = .returned (.agg #[.int .i64 0, .int .i64 0, .int .i64 0, .int .i64 0, .int .i64 0, .int .i64 0, .int .i64 0, .int .i64 0, .int .i64 0, .int .i64 0, .int .i64 0, .int .i64 0, .int .i64 0, .slice none 0 0, .slice none 0 0, .int .i64 0, .slice none 0 0, .slice none 0 0, .int .i64 0, .int .i64 0, .int .i64 0]) ∧ Below w.heap.size w w' := by
  obtain ⟨W0, hW0⟩ : ∃ W, W = (w.alloc (.cells #[.int .i64 de, .int .i64 qu, .int .i64 wi, .int .i64 ti, .int .i64 qa, .int .i64 bu, .int .i64 le, .int .i64 pb, .int .i64 pc, .int .i64 pj, .int .i64 pt] 27)).alloc (.cells #[.int .i64 0, .int .i64 0, .int .i64 0, .int .i64 0, .int .i64 0, .int .i64 0, .int .i64 0, .int .i64 0, .int .i64 0, .int .i64 0, .int .i64 0, .int .i64 0, .int .i64 0, .slice none 0 0, .slice none 0 0, .int .i64 0, .slice none 0 0, .slice none 0 0, .int .i64 0, .int .i64 0, .int .i64 0] 33) := ⟨_, rfl⟩
  have hb2 := bOne (w.alloc (.cells #[.int .i64 de, .int .i64 qu, .int .i64 wi, .int .i64 ti, .int .i64 qa, .int .i64 bu, .int .i64 le, .int .i64 pb, .int .i64 pc, .int .i64 pj, .int .i64 pt] 27)) (.cells #[.int .i64 0, .int .i64 0, .int .i64 0, .int .i64 0, .int .i64 0, .int .i64 0, .int .i64 0, .int .i64 0, .int .i64 0, .int .i64 0, .int .i64 0, .int .i64 0, .int .i64 0, .slice none 0 0, .slice none 0 0, .int .i64 0, .slice none 0 0, .slice none 0 0, .int .i64 0, .int .i64 0, .int .i64 0] 33)
  have HC : Hid (Box W0 w.heap.size 27 [.int .i64 de, .int .i64 qu, .int .i64 wi, .int .i64 ti, .int .i64 qa, .int .i64 bu, .int .i64 le, .int .i64 pb, .int .i64 pc, .int .i64 pj, .int .i64 pt]) := Lib.hid (by rw [hW0]; exact (Box.new w [.int .i64 de, .int .i64 qu, .int .i64 wi, .int .i64 ti, .int .i64 qa, .int .i64 bu, .int .i64 le, .int .i64 pb, .int .i64 pc, .int .i64 pj, .int .i64 pt] 27).below hb2)
  have HR : Hid (Box W0 (w.heap.size + 1) 33 [.int .i64 0, .int .i64 0, .int .i64 0, .int .i64 0, .int .i64 0, .int .i64 0, .int .i64 0, .int .i64 0, .int .i64 0, .int .i64 0, .int .i64 0, .int .i64 0, .int .i64 0, .slice none 0 0, .slice none 0 0, .int .i64 0, .slice none 0 0, .slice none 0 0, .int .i64 0, .int .i64 0, .int .i64 0]) := Lib.hid (by
    rw [hW0]
    have := Box.new (w.alloc (.cells #[.int .i64 de, .int .i64 qu, .int .i64 wi, .int .i64 ti, .int .i64 qa, .int .i64 bu, .int .i64 le, .int .i64 pb, .int .i64 pc, .int .i64 pj, .int .i64 pt] 27)) [.int .i64 0, .int .i64 0, .int .i64 0, .int .i64 0, .int .i64 0, .int .i64 0, .int .i64 0, .int .i64 0, .int .i64 0, .int .i64 0, .int .i64 0, .int .i64 0, .int .i64 0, .slice none 0 0, .slice none 0 0, .int .i64 0, .slice none 0 0, .slice none 0 0, .int .i64 0, .int .i64 0, .int .i64 0] 33
    simpa using this)
  have HL : Hid (Below w.heap.size w W0) := Lib.hid (by rw [hW0]; exact (bOne w (.cells #[.int .i64 de, .int .i64 qu, .int .i64 wi, .int .i64 ti, .int .i64 qa, .int .i64 bu, .int .i64 le, .int .i64 pb, .int .i64 pc, .int .i64 pj, .int .i64 pt] 27)).trans (hb2.mono (by simp)))
  have HWE := Lib.hid hW0
  clear hW0 hb2
  go_enter Try.func13, Try.ntmps13
  go_upto_region 1 with fail
  rw [← HWE.out]
  clear HWE
  go_wp2_with (first | (refine wpList_load_box rfl _ 27 rfl rfl HC.out _ Try.underlying27 sizeCfg ?_) | fail)
  refine (specCfg_any de qu wi ti qa bu le pb pc pj pt _).mono ?_
  rintro e w1 ⟨rfl, hb⟩
  replace HR := Lib.hid (HR.out.below hb)
  replace HL := Lib.hid (low_after HL.out hb)
  clear hb HC
  rw [hno]
  go_wp2_with (first | (refine wpList_store_box rfl _ _ 33 rfl rfl [.int .i64 0, .int .i64 0, .int .i64 0, .int .i64 0, .int .i64 0, .int .i64 0, .int .i64 0, .int .i64 0, .int .i64 0, .int .i64 0, .int .i64 0, .int .i64 0, .int .i64 0, .slice none 0 0, .slice none 0 0, .int .i64 0, .slice none 0 0, .slice none 0 0, .int .i64 0, .int .i64 0, .int .i64 0] rfl HR.out sizeGate rfl rfl ?_; intro V hXb hgV hlV; have HX := Lib.hid hXb; have HGV := Lib.hid hgV; have HLV := Lib.hid (hlV w.heap.size w (by omega) HL.out); clear hXb hgV hlV) | fail)
  exact bodyPost_ret (results_box _ Try.results13 rfl HX.out _ Try.underlying33 sizeGate) rfl ⟨rfl, HLV.out⟩

set_option maxRecDepth 100000 in
set_option maxHeartbeats 4000000 in
theorem specNew_yes (w : World) (n : Nat) (qu wi ti qa bu le pb pc pj pt : Int) (hn : n ≤ 1000) (hyes : cfgB (n : Int) qu wi ti qa bu le pb pc pj pt = true) :
    Calls Try.prog 13 #[.agg #[.int .i64 n, .int .i64 qu, .int .i64 wi, .int .i64 ti, .int .i64 qa, .int .i64 bu, .int .i64 le, .int .i64 pb, .int .i64 pc, .int .i64 pj, .int .i64 pt]] w fun e w' => SNewEnd w w' n qu wi ti qa bu le pb pc pj pt e := by
  obtain ⟨W0, hW0⟩ : ∃ W, W = (w.alloc (.cells #[.int .i64 n, .int .i64 qu, .int .i64 wi, .int .i64 ti, .int .i64 qa, .int .i64 bu, .int .i64 le, .int .i64 pb, .int .i64 pc, .int .i64 pj, .int .i64 pt] 27)).alloc (.cells #[.int .i64 0, .int .i64 0, .int .i64 0, .int .i64 0, .int .i64 0, .int .i64 0, .int .i64 0, .int .i64 0, .int .i64 0, .int .i64 0, .int .i64 0, .int .i64 0, .int .i64 0, .slice none 0 0, .slice none 0 0, .int .i64 0, .slice none 0 0, .slice none 0 0, .int .i64 0, .int .i64 0, .int .i64 0] 33) := ⟨_, rfl⟩
  have hb2 := bOne (w.alloc (.cells #[.int .i64 n, .int .i64 qu, .int .i64 wi, .int .i64 ti, .int .i64 qa, .int .i64 bu, .int .i64 le, .int .i64 pb, .int .i64 pc, .int .i64 pj, .int .i64 pt] 27)) (.cells #[.int .i64 0, .int .i64 0, .int .i64 0, .int .i64 0, .int .i64 0, .int .i64 0, .int .i64 0, .int .i64 0, .int .i64 0, .int .i64 0, .int .i64 0, .int .i64 0, .int .i64 0, .slice none 0 0, .slice none 0 0, .int .i64 0, .slice none 0 0, .slice none 0 0, .int .i64 0, .int .i64 0, .int .i64 0] 33)
  have HC : Hid (Box W0 w.heap.size 27 [.int .i64 n, .int .i64 qu, .int .i64 wi, .int .i64 ti, .int .i64 qa, .int .i64 bu, .int .i64 le, .int .i64 pb, .int .i64 pc, .int .i64 pj, .int .i64 pt]) := Lib.hid (by rw [hW0]; exact (Box.new w [.int .i64 n, .int .i64 qu, .int .i64 wi, .int .i64 ti, .int .i64 qa, .int .i64 bu, .int .i64 le, .int .i64 pb, .int .i64 pc, .int .i64 pj, .int .i64 pt] 27).below hb2)
  have HR : Hid (Box W0 (w.heap.size + 1) 33 [.int .i64 0, .int .i64 0, .int .i64 0, .int .i64 0, .int .i64 0, .int .i64 0, .int .i64 0, .int .i64 0, .int .i64 0, .int .i64 0, .int .i64 0, .int .i64 0, .int .i64 0, .slice none 0 0, .slice none 0 0, .int .i64 0, .slice none 0 0, .slice none 0 0, .int .i64 0, .int .i64 0, .int .i64 0]) := Lib.hid (by
    rw [hW0]
    have := Box.new (w.alloc (.cells #[.int .i64 n, .int .i64 qu, .int .i64 wi, .int .i64 ti, .int .i64 qa, .int .i64 bu, .int .i64 le, .int .i64 pb, .int .i64 pc, .int .i64 pj, .int .i64 pt] 27)) [.int .i64 0, .int .i64 0, .int .i64 0, .int .i64 0, .int .i64 0, .int .i64 0, .int .i64 0, .int .i64 0, .int .i64 0, .int .i64 0, .int .i64 0, .int .i64 0, .int .i64 0, .slice none 0 0, .slice none 0 0, .int .i64 0, .slice none 0 0, .slice none 0 0, .int .i64 0, .int .i64 0, .int .i64 0] 33
    simpa using this)
  have HL : Hid (Below w.heap.size w W0) := Lib.hid (by rw [hW0]; exact (bOne w (.cells #[.int .i64 n, .int .i64 qu, .int .i64 wi, .int .i64 ti, .int .i64 qa, .int .i64 bu, .int .i64 le, .int .i64 pb, .int .i64 pc, .int .i64 pj, .int .i64 pt] 27)).trans (hb2.mono (by simp)))
  have HWE := Lib.hid hW0
  clear hW0 hb2
  go_enter Try.func13, Try.ntmps13
  go_upto_region 1 with fail
  rw [← HWE.out]
  clear HWE
  go_wp2_with (first | (refine wpList_load_box rfl _ 27 rfl rfl HC.out _ Try.underlying27 sizeCfg ?_) | fail)
  refine (specCfg_any (n : Int) qu wi ti qa bu le pb pc pj pt _).mono ?_
  rintro e w1 ⟨rfl, hb⟩
  replace HC := Lib.hid (HC.out.below hb)
  replace HR := Lib.hid (HR.out.below hb)
  replace HL := Lib.hid (low_after HL.out hb)
  clear hb
  rw [hyes]
  go_wp2_with (first | (refine wpList_load_box rfl _ 27 rfl rfl HC.out _ Try.underlying27 sizeCfg ?_) | (refine wpList_store_box rfl _ _ 33 rfl rfl [.int .i64 n, .int .i64 qu, .int .i64 wi, .int .i64 ti, .int .i64 qa, .int .i64 bu, .int .i64 le, .int .i64 pb, .int .i64 pc, .int .i64 pj, .int .i64 pt, .int .i64 0, .int .i64 0, .slice none 0 0, .slice none 0 0, .int .i64 0, .slice none 0 0, .slice none 0 0, .int .i64 0, .int .i64 0, .int .i64 0] rfl (Box.new _ [.int .i64 0, .int .i64 0, .int .i64 0, .int .i64 0, .int .i64 0, .int .i64 0, .int .i64 0, .int .i64 0, .int .i64 0, .int .i64 0, .int .i64 0, .int .i64 0, .int .i64 0, .slice none 0 0, .slice none 0 0, .int .i64 0, .slice none 0 0, .slice none 0 0, .int .i64 0, .int .i64 0, .int .i64 0] 33) sizeGate rfl rfl ?_; intro V hXb hgV hlV; have HX := Lib.hid hXb; have HLV := Lib.hid (hlV w1.heap.size w1 (Nat.le_refl _) (bOne w1 _)); clear hXb hgV hlV) | fail)
  replace HC := Lib.hid (HC.out.below HLV.out)
  have HRl := Lib.hid HR.out.lt
  replace HR := Lib.hid (HR.out.below HLV.out)
  replace HL := Lib.hid (low_after HL.out HLV.out)
  have HKX := Lib.hid HX.out.lt
  clear HLV
  obtain ⟨kx, hkx⟩ : ∃ k, k = w1.heap.size := ⟨_, rfl⟩
  rw [← hkx] at HX HRl HKX ⊢
  clear hkx
  obtain ⟨i0, hi, hz0, hz1, hz2⟩ := info_parts infoInt'
  go_loopw [4] (fun i wr => ∃ (j : Nat) (ka : Option Addr) (kc : Nat) (fa : Option Addr) (fc : Nat), j ≤ n ∧ i = .int .i64 j ∧ Hid (Box wr kx 33 [.int .i64 n, .int .i64 qu, .int .i64 wi, .int .i64 ti, .int .i64 qa, .int .i64 bu, .int .i64 le, .int .i64 pb, .int .i64 pc, .int .i64 pj, .int .i64 pt, .int .i64 0, .int .i64 0, .slice none 0 0, .slice ka j kc, .int .i64 0, .slice fa j fc, .slice none 0 0, .int .i64 0, .int .i64 0, .int .i64 0]) ∧ Hid (Box wr w.heap.size 27 [.int .i64 n, .int .i64 qu, .int .i64 wi, .int .i64 ti, .int .i64 qa, .int .i64 bu, .int .i64 le, .int .i64 pb, .int .i64 pc, .int .i64 pj, .int .i64 pt]) ∧ Hid (Box wr (w.heap.size + 1) 33 [.int .i64 0, .int .i64 0, .int .i64 0, .int .i64 0, .int .i64 0, .int .i64 0, .int .i64 0, .int .i64 0, .int .i64 0, .int .i64 0, .int .i64 0, .int .i64 0, .int .i64 0, .slice none 0 0, .slice none 0 0, .int .i64 0, .slice none 0 0, .slice none 0 0, .int .i64 0, .int .i64 0, .int .i64 0]) ∧ Hid (ROwn lrS (kx + 1) wr 42 (.slice ka j kc) (List.replicate j lr0)) ∧ Hid (IOwn (kx + 1) wr (.slice fa j fc) (List.replicate j 0)) ∧ Hid (Below w.heap.size w wr)) (fun i _ => n - (intOf i).toNat)
  case atStart => exact ⟨0, none, 0, none, 0, by omega, rfl, HX, HC, HR, Lib.hid (ROwn.nil _ _ _), Lib.hid (IOwn.nil _ _), HL⟩
  case round =>
    obtain ⟨j, ka, kc, fa, fc, hj, rfl, HX, HC, HR, HK, HF, HL⟩ := hrel
    have c0 := HC.out.cell 0 _ rfl
    by_cases hlt : (j : Int) < (n : Int)
    · have x14 := HX.out.cell 14 _ rfl
      go_wp2_with (first | (at_builtin; refine append_lr rfl _ _ rfl rfl rfl HK.out rfl (by simp; omega) HX.out.lt ?_; intro v' w' hown' hg'; rw [rep_snoc] at hown'; obtain ⟨ka1, kc1, rfl⟩ := hown'.shapeN (j + 1) (by simp); have HX1 := Lib.hid (HX.out.grown hg' (fun e => by have := (World.ownsRow.lt HK.out _ e.symm).1; omega)); have HC1 := Lib.hid (HC.out.grown hg' (fun e => by have := (World.ownsRow.lt HK.out _ e.symm).1; have := HRl.out; omega)); have HR1 := Lib.hid (HR.out.grown hg' (fun e => by have := (World.ownsRow.lt HK.out _ e.symm).1; have := HRl.out; omega)); have HF1 := Lib.hid (HF.out.grown hg' (rown_isep HK.out HF.out)); have HK1 := Lib.hid hown'; have HL1 := Lib.hid (HL.out.grown hg' HL.out.size (fun k e => by have := (World.ownsRow.lt HK.out k e).1; have := HRl.out; omega)); have y14 := HX1.out.cell 14 _ rfl; have yf14 := HX1.out.frozen 14; have y16 := HX1.out.cell 16 _ rfl; have yf16 := HX1.out.frozen 16; have HOWN := Lib.hid (left_low HF1.out (kx := kx) (by omega) (.slice ka1 (j + 1) kc1)); have HBEL := Lib.hid (HL1.out.setCell (p := ⟨kx, 14, none⟩) (by have := HRl.out; simp; omega) (.slice ka1 (j + 1) kc1)); clear hown' hg' x14) | (at_builtin; refine Kit.append_one (n := j) rfl _ _ 31 rfl 3 i0 _ 8 Try.underlying31 hi hz0 hz1 hz2 rfl (by decide) rfl HOWN.out (by rw [show (w'.setCell ⟨kx, 14, none⟩ (.slice ka1 (j + 1) kc1)).heap.size = w'.heap.size by simp]; rfl) rfl (by omega) (Below.refl _ _) (by have := HX1.out.lt; simp; omega) ?_; intro v2 w2 hown2 hbel2 hsz2 hg2; have hf2 := left_snoc hown2; obtain ⟨fa1, fc1, rfl⟩ := IOwn.shapeN hf2 (j + 1) (by simp); have HF2 := Lib.hid hf2; have HG2 := Lib.hid hg2; have HBL2 := Lib.hid (HBEL.out.trans (hbel2.mono (by have := HRl.out; omega))); have HX2 : Hid (Box w2 kx 33 [.int .i64 n, .int .i64 qu, .int .i64 wi, .int .i64 ti, .int .i64 qa, .int .i64 bu, .int .i64 le, .int .i64 pb, .int .i64 pc, .int .i64 pj, .int .i64 pt, .int .i64 0, .int .i64 0, .slice none 0 0, .slice ka1 (j + 1) kc1, .int .i64 0, .slice fa j fc, .slice none 0 0, .int .i64 0, .int .i64 0, .int .i64 0]) := Lib.hid ((Box.store [.slice ka1 (j + 1) kc1] 14 _ _ HX1.out).grown hg2 (fun e => by have := (World.ownsRow.lt HOWN.out _ e.symm).1; omega)); have z16 := HX2.out.cell 16 _ rfl; have zf16 := HX2.out.frozen 16; clear hown2 hbel2 hsz2 hg2 hf2 y14 yf14 y16 yf16) | fail)
      have HG1 := Lib.hid (store_grown (k := kx) [.slice ka1 (j + 1) kc1] 14 w')
      have HG3 := Lib.hid (store_grown (k := kx) [.slice fa1 (j + 1) fc1] 16 w2)
      have hne : ∀ k, k ≤ kx → some k ≠ (Value.slice fa j fc).ownBlock := fun k hk e => by have := (World.ownsRow.lt HOWN.out _ e.symm).1; omega
      have HC3 := Lib.hid (((HC1.out.grown HG1.out (by have := HRl.out; simp; omega)).grown HG2.out (hne _ (by have := HRl.out; omega))).grown HG3.out (by have := HRl.out; simp; omega))
      have HR3 := Lib.hid (((HR1.out.grown HG1.out (by have := HRl.out; simp; omega)).grown HG2.out (hne _ (by have := HRl.out; omega))).grown HG3.out (by have := HRl.out; simp; omega))
      have HX3 : Hid (Box (w2.setCell ⟨kx, 16, none⟩ (.slice fa1 (j + 1) fc1)) kx 33 [.int .i64 n, .int .i64 qu, .int .i64 wi, .int .i64 ti, .int .i64 qa, .int .i64 bu, .int .i64 le, .int .i64 pb, .int .i64 pc, .int .i64 pj, .int .i64 pt, .int .i64 0, .int .i64 0, .slice none 0 0, .slice ka1 (j + 1) kc1, .int .i64 0, .slice fa1 (j + 1) fc1, .slice none 0 0, .int .i64 0, .int .i64 0, .int .i64 0]) := Lib.hid (Box.store [.slice fa1 (j + 1) fc1] 16 _ _ HX2.out)
      have hk1 := HK1.out.setLow (p := ⟨kx, 14, none⟩) (by simp) (.slice ka1 (j + 1) kc1)
      have HK3 := Lib.hid ((hk1.grown HG2.out (isep_flip (rown_isep hk1 (own_left HOWN.out)))).setLow (p := ⟨kx, 16, none⟩) (by simp) (.slice fa1 (j + 1) fc1))
      have HF3 := Lib.hid (HF2.out.setLow (p := ⟨kx, 16, none⟩) (by simp) (.slice fa1 (j + 1) fc1))
      have HL3 := Lib.hid (HBL2.out.setCell (p := ⟨kx, 16, none⟩) (by have := HRl.out; simp; omega) (.slice fa1 (j + 1) fc1))
      clear hne hk1
      go_roundw
      case rel => exact ⟨j + 1, ka1, kc1, fa1, fc1, by omega, by go_num, HX3, HC3, HR3, HK3, HF3, HL3⟩
      case measure => simp [intOf]; omega
    · have hjn : j = n := by omega
      subst hjn
      go_wp2_with (first | (refine wpList_load_box rfl _ 33 rfl rfl HX.out _ Try.underlying33 sizeGate ?_) | (refine wpList_store_box rfl _ _ 33 rfl rfl [.int .i64 j, .int .i64 qu, .int .i64 wi, .int .i64 ti, .int .i64 qa, .int .i64 bu, .int .i64 le, .int .i64 pb, .int .i64 pc, .int .i64 pj, .int .i64 pt, .int .i64 0, .int .i64 0, .slice none 0 0, .slice ka j kc, .int .i64 0, .slice fa j fc, .slice none 0 0, .int .i64 0, .int .i64 0, .int .i64 0] rfl HR.out sizeGate rfl rfl ?_; intro V9 hXb hgV hlV) | fail)
      have HGV := Lib.hid hgV
      have HLV := Lib.hid (hlV w.heap.size w (by omega) HL.out)
      have HB0 := Lib.hid (show ∀ k, k = w.heap.size + 1 → k < kx + 1 from fun k e => by have := HRl.out; omega)
      refine bodyPost_ret (results_box _ Try.results13 rfl hXb _ Try.underlying33 sizeGate) rfl ⟨⟨_, _, _, _, rfl, ?_, ?_⟩, HLV.out⟩
      · exact lis_rep (HK.out.grown HGV.out (by
          cases hv : (Value.slice ka j kc).ownBlock with
          | none => exact .inl rfl
          | some q => exact .inr (fun e => by have h1 := (World.ownsRow.lt HK.out q hv).1; injection e with e; have := HRl.out; omega)))
      · exact Lnk.IOwn.isN (HF.out.grown HGV.out (by
          cases hv : (Value.slice fa j fc).ownBlock with
          | none => exact .inl rfl
          | some q => exact .inr (fun e => by have h1 := (World.ownsRow.lt HF.out q hv).1; injection e with e; have := HRl.out; omega)))

end Go.Proofs.Ytecfomaapomncaa.Gat
