/-
  Marks in a whole gate: written, and read again.
  The specification's Drain.
-/
import Derived.Test.YtkndpkingmemoaaGreatDoorMgk
import Derived.Test.YtkndpkingmemoaaGreatDoorMgc
import Derived.Test.YtkndpkingmemoaaGreatDoorMgj
namespace Go.Proofs.YtkndpkingmemoaaGreatDoor.Gat
open Go.RowKit
open Lnk (bOne bAfter IOwn IIs YOwn YIs Y below_keep below_drew' bcell low_after low_alloc grown_of_below mrkY mrkI)
set_option linter.unusedVariables false
set_option linter.unusedSimpArgs false

def mq1 (en : Nat) : Int := 1 + 9 * (en : Int)
def mq2 (en : Nat) (K : List Lk) : Int := mkQ (mq1 en) K
def mq3 (en : Nat) (K : List Lk) (fn : Nat) : Int := mq2 en K + (fn : Int)
def mq4 (en : Nat) (K : List Lk) (fn rn : Nat) : Int := mq3 en K fn + (rn : Int)
theorem mq4_pos (en : Nat) (K : List Lk) (fn rn : Nat) : ¬ mq4 en K fn rn < 0 := by
  have h1 := mkQ_lo K (mq1 en)
  unfold mq4 mq3 mq2
  unfold mq1 at *
  omega
/-- a struct read whole, at an operation whose guard says yes -/
theorem wpList_load_boxw {P : Program} {w : World} {ops : Array Oper} {rest : List Oper} {o : Oper} {a : Act} {Q : Exit → Act → World → Prop} {k : Nat} {T : TypeId} {l : List Value} (hg : Region.wanted o (yielded ops a.tmps) = true) (p : Operand) (t : TypeId) (hop : o.op = .load t p) (hs : a.eval p = .pointer (some ⟨k, 0, none⟩)) (hb : Box w k T l) (fs : Array Field) (hu : P.underlying t = some (.struct fs)) (hi : (P.info? t).map (·.size) = some l.length)
    (h : wpList P ops Q rest (a.put o.dst (.agg l.toArray)) w) : wpList P ops Q (o :: rest) a w := by
  refine wpList_step fun K' hK' => ?_
  rw [if_pos hg]
  unfold Oper.wp
  rw [exec_load_box (ρ := a.eval) p t hop hs hb fs hu hi]
  exact hK' _ _ h
/-- the rows of a gate as the marks leave them -/
def mRows (ev lk lf lt : Value) (vs : List Value) (en : Nat) (K : List Lk) (fn rn : Nat) : List Rw := gRows ev lk lf lt vs (mrkE 1 en) (mkK (mq1 en) K) (mrkI (mq2 en K) fn) (mrkI (mq3 en K fn) rn)
theorem mq1_bd {en : Nat} (h : en ≤ 1048576) : 0 < mq1 en ∧ mq1 en ≤ 100000000 := by unfold mq1; omega
theorem mq2_bd {en : Nat} {K : List Lk} (h : en ≤ 1048576) (hk : ∀ k ∈ K, k.l.length ≤ 1048576) (hn : K.length ≤ 1048576) : 0 < mq2 en K ∧ mq2 en K ≤ 10000000000000 := by
  have h1 := mq1_bd h
  have h2 := mkQ_bd (j := K.length) hk hn h1.2
  rw [List.take_length] at h2
  have h3 := mkQ_lo K (mq1 en)
  unfold mq2
  omega
theorem Rws.lis {B : Nat} {w : World} {ka : Option Addr} {kn kc : Nat} {vs : List Value} {K : List Lk} {L : List Rw} (h : Rws B w (lrR (.slice ka kn kc) (rawOf K vs) :: (flRs K vs ++ L))) (hv : vs.length = K.length) : LIs w.heap.size w ka kn K := by
  have hlk : RIs lrS w.heap.size w ka kn (rawOf K vs) := ROwn.isN h.head
  refine ⟨rawOf K vs, hlk, rawOf_len hv, fun k hk hk' => ?_⟩
  have hvk : k < vs.length := by rw [hv]; exact hk'
  have hfk : k < (flRs K vs).length := by rw [flRs_len hv]; exact hk'
  rw [rawOf_get k hk hk' hvk]
  have hf : YOwn B w 95 vs[k] K[k].l := by
    have h1 := h.at_ (flRs K vs)[k] (by simp)
    rw [flRs_get k hfk hk' hvk] at h1
    exact h1
  obtain ⟨a, c, e⟩ := hf.shape
  rw [e] at hf
  exact ⟨rfl, rfl, rfl, a, _, c, e, hf.isN⟩
theorem gRows_perm (ev lk lf lt : Value) (vs : List Value) (E : List Ev) (K : List Lk) (F R : List Int) : (gRows ev lk lf lt vs E K F R).Perm (lrR lk (rawOf K vs) :: (flRs K vs ++ [evR ev E, inR lf F, inR lt R])) := by
  unfold gRows
  refine (List.Perm.swap _ _ _).trans (List.Perm.cons _ ?_)
  exact List.perm_append_comm (l₁ := [evR ev E, inR lf F, inR lt R])

theorem gRows_permL (ev lk lf lt : Value) (vs : List Value) (E : List Ev) (K : List Lk) (F R : List Int) (L : List Rw) : (gRows ev lk lf lt vs E K F R ++ L).Perm (lrR lk (rawOf K vs) :: (flRs K vs ++ ([evR ev E, inR lf F, inR lt R] ++ L))) := by
  have h1 := (gRows_perm ev lk lf lt vs E K F R).append_right L
  rw [List.cons_append, List.append_assoc] at h1
  exact h1

set_option maxRecDepth 100000 in
set_option maxHeartbeats 4000000 in
theorem markGate_any (w : World) (B : Nat) (de qu wi ti qa bu le pb pc pj pt nw la : Int) (ea : Option Addr) (en ec : Nat) (ka : Option Addr) (kn kc : Nat) (tu : Int) (fa : Option Addr) (fn fc : Nat) (ra : Option Addr) (rn rc : Nat) (tk ac dr : Int) (vs : List Value) (E : List Ev) (K : List Lk) (F R : List Int) (L : List Rw) (h : Rws B w (gRows (.slice ea en ec) (.slice ka kn kc) (.slice fa fn fc) (.slice ra rn rc) vs E K F R ++ L)) (hlen : vs.length = K.length) (hB : B ≤ w.heap.size) (hs : Small en kn fn rn K) :
    Calls Tryz.prog 28 #[.agg #[.int .i64 de, .int .i64 qu, .int .i64 wi, .int .i64 ti, .int .i64 qa, .int .i64 bu, .int .i64 le, .int .i64 pb, .int .i64 pc, .int .i64 pj, .int .i64 pt, .int .i64 nw, .int .i64 la, .slice ea en ec, .slice ka kn kc, .int .i64 tu, .slice fa fn fc, .slice ra rn rc, .int .i64 tk, .int .i64 ac, .int .i64 dr], .int .i64 1] w fun e w' => e = .returned (.int .i64 (mq4 en K fn rn)) ∧ Rws B w' (mRows (.slice ea en ec) (.slice ka kn kc) (.slice fa fn fc) (.slice ra rn rc) vs en K fn rn ++ L) ∧ Below B w w' ∧ Keep4 w w' := by
  obtain ⟨W0, hW0⟩ : ∃ W, W = w.alloc (.cells #[.int .i64 de, .int .i64 qu, .int .i64 wi, .int .i64 ti, .int .i64 qa, .int .i64 bu, .int .i64 le, .int .i64 pb, .int .i64 pc, .int .i64 pj, .int .i64 pt, .int .i64 nw, .int .i64 la, .slice ea en ec, .slice ka kn kc, .int .i64 tu, .slice fa fn fc, .slice ra rn rc, .int .i64 tk, .int .i64 ac, .int .i64 dr] 32) := ⟨_, rfl⟩
  have HX : Hid (Box W0 w.heap.size 32 [.int .i64 de, .int .i64 qu, .int .i64 wi, .int .i64 ti, .int .i64 qa, .int .i64 bu, .int .i64 le, .int .i64 pb, .int .i64 pc, .int .i64 pj, .int .i64 pt, .int .i64 nw, .int .i64 la, .slice ea en ec, .slice ka kn kc, .int .i64 tu, .slice fa fn fc, .slice ra rn rc, .int .i64 tk, .int .i64 ac, .int .i64 dr]) := Lib.hid (by rw [hW0]; exact Box.new w [.int .i64 de, .int .i64 qu, .int .i64 wi, .int .i64 ti, .int .i64 qa, .int .i64 bu, .int .i64 le, .int .i64 pb, .int .i64 pc, .int .i64 pj, .int .i64 pt, .int .i64 nw, .int .i64 la, .slice ea en ec, .slice ka kn kc, .int .i64 tu, .slice fa fn fc, .slice ra rn rc, .int .i64 tk, .int .i64 ac, .int .i64 dr] 32)
  have hb0 : Below w.heap.size w W0 := by rw [hW0]; exact bOne _ _
  have HR := Lib.hid (h.below hb0)
  have HL := Lib.hid (hb0.mono hB)
  have HK4 := Lib.hid (Keep4.below hb0)
  have HBW := Lib.hid (show B ≤ W0.heap.size from Nat.le_trans hB hb0.size)
  have HKL := Lib.hid (show kn = K.length from by have h1 : ROwn lrS B w 82 (.slice ka kn kc) (rawOf K vs) := h.at_ (lrR (.slice ka kn kc) (rawOf K vs)) (by simp [gRows]); have h2 := h1.is.1; rw [rawOf_len hlen] at h2; exact h2)
  have HVL := Lib.hid hlen
  have HS := Lib.hid hs
  have HWE := Lib.hid hW0
  clear h hW0 hb0 hB hs hlen
  have x13 := HX.out.cell 13 _ rfl
  have x14 := HX.out.cell 14 _ rfl
  go_enter Tryz.func28, Tryz.ntmps28
  go_wp2_with fail
  rw [← HWE.out]
  clear HWE
  refine (markEventS_any _ B ea en ec E 1 (HR.out.at_ (evR (.slice ea en ec) E) (by simp [gRows])) (by have := HS.out.1; omega) (by omega) (by omega)).mono ?_
  rintro e w1 ⟨rfl, ho, hg⟩
  have hat : (evR (.slice ea en ec) E).At B W0 := HR.out.at_ _ (by simp [gRows])
  replace HX := Lib.hid (HX.out.grown hg (hat.ne_box rfl HX.out rfl))
  replace HK4 := Lib.hid (HK4.out.trans (Keep4.row hat rfl hg))
  replace HL := Lib.hid (HL.out.grown hg HBW.out (fun q e => (hat.lt q e).1))
  have hr1 : Rws B w1 (gRows (.slice ea en ec) (.slice ka kn kc) (.slice fa fn fc) (.slice ra rn rc) vs (mrkE 1 en) K F R ++ L) := by
    have hm := HR.out.mod (s := evR (.slice ea en ec) (mrkE 1 en)) 0 (by simp [gRows]) hg ho rfl
    exact hm
  replace HBW := Lib.hid (Nat.le_trans HBW.out hg.size)
  replace HR := Lib.hid hr1
  clear hg ho hat hr1 x13 x14
  obtain ⟨q1, hq⟩ : ∃ q : Int, q = mq1 en := ⟨_, rfl⟩
  rw [show (1 : Int) + 9 * (en : Int) = q1 from hq.symm]
  have hq0 : 0 < q1 := by rw [hq]; exact (mq1_bd HS.out.1).1
  have hq1 : q1 ≤ 100000000 := by rw [hq]; exact (mq1_bd HS.out.1).2
  have HQ1 := Lib.hid hq
  clear hq
  have x14 := HX.out.cell 14 _ rfl
  have x16 := HX.out.cell 16 _ rfl
  go_wp2_with fail
  refine (markLinkG_any _ B ka kn kc K vs ([evR (.slice ea en ec) (mrkE 1 en), inR (.slice fa fn fc) F, inR (.slice ra rn rc) R] ++ L) q1 (HR.out.perm (gRows_permL _ _ _ _ _ _ _ _ _ _)) HBW.out HVL.out HS.out.2.2.1 (by have := HS.out.2.1; have := HKL.out; omega) (by omega) hq1).mono ?_
  rintro e w2 ⟨rfl, hr, hl, hk⟩
  replace HX := Lib.hid (hk.box HX.out rfl)
  replace HK4 := Lib.hid (HK4.out.trans hk)
  replace HL := Lib.hid (HL.out.trans hl)
  replace HBW := Lib.hid (Nat.le_trans HBW.out hl.size)
  replace HR := Lib.hid (hr.perm (gRows_permL (.slice ea en ec) (.slice ka kn kc) (.slice fa fn fc) (.slice ra rn rc) vs (mrkE 1 en) (mkK q1 K) F R L).symm)
  clear hr hl hk x14 x16
  obtain ⟨q2, hq⟩ : ∃ q : Int, q = mkQ q1 K := ⟨_, rfl⟩
  rw [← hq]
  have hbd := mq2_bd HS.out.1 HS.out.2.2.1 (by have := HS.out.2.1; have := HKL.out; omega : K.length ≤ 1048576)
  have hq2 : 0 < q2 := by rw [hq, HQ1.out]; exact hbd.1
  have hq3 : q2 ≤ 10000000000000 := by rw [hq, HQ1.out]; exact hbd.2
  have HQ2 := Lib.hid hq
  clear hq hbd
  have x16 := HX.out.cell 16 _ rfl
  have x17 := HX.out.cell 17 _ rfl
  go_wp2_with fail
  refine (markIntG_any _ B fa fn fc F q2 (HR.out.at_ (inR (.slice fa fn fc) F) (by simp [gRows])) (by have := HS.out.2.2.2.1; omega) (by omega) (by omega)).mono ?_
  rintro e w3 ⟨rfl, ho, hg⟩
  have hat : (inR (.slice fa fn fc) F).At B w2 := HR.out.at_ _ (by simp [gRows])
  replace HX := Lib.hid (HX.out.grown hg (hat.ne_box rfl HX.out rfl))
  replace HK4 := Lib.hid (HK4.out.trans (Keep4.row hat rfl hg))
  replace HL := Lib.hid (HL.out.grown hg HBW.out (fun q e => (hat.lt q e).1))
  have hr1 : Rws B w3 (gRows (.slice ea en ec) (.slice ka kn kc) (.slice fa fn fc) (.slice ra rn rc) vs (mrkE 1 en) (mkK q1 K) (mrkI q2 fn) R ++ L) := HR.out.mod (s := inR (.slice fa fn fc) (mrkI q2 fn)) 2 (by simp [gRows]) hg ho rfl
  replace HBW := Lib.hid (Nat.le_trans HBW.out hg.size)
  replace HR := Lib.hid hr1
  clear hg ho hat hr1 x16 x17
  obtain ⟨q3, hq⟩ : ∃ q : Int, q = q2 + (fn : Int) := ⟨_, rfl⟩
  rw [← hq]
  have hq4 : 0 < q3 := by omega
  have hq5 : q3 ≤ 20000000000000 := by have := HS.out.2.2.2.1; omega
  have HQ3 := Lib.hid hq
  clear hq
  have x17 := HX.out.cell 17 _ rfl
  go_wp2_with fail
  refine (markIntG_any _ B ra rn rc R q3 (HR.out.at_ (inR (.slice ra rn rc) R) (by simp [gRows])) (by have := HS.out.2.2.2.2; omega) (by omega) (by omega)).mono ?_
  rintro e w4 ⟨rfl, ho, hg⟩
  have hat : (inR (.slice ra rn rc) R).At B w3 := HR.out.at_ _ (by simp [gRows])
  replace HK4 := Lib.hid (HK4.out.trans (Keep4.row hat rfl hg))
  replace HL := Lib.hid (HL.out.grown hg HBW.out (fun q e => (hat.lt q e).1))
  have hr1 : Rws B w4 (gRows (.slice ea en ec) (.slice ka kn kc) (.slice fa fn fc) (.slice ra rn rc) vs (mrkE 1 en) (mkK q1 K) (mrkI q2 fn) (mrkI q3 rn) ++ L) := HR.out.mod (s := inR (.slice ra rn rc) (mrkI q3 rn)) 3 (by simp [gRows]) hg ho rfl
  replace HR := Lib.hid hr1
  clear hg ho hat hr1 x17
  have HQ := Lib.hid (show q3 + (rn : Int) = mq4 en K fn rn by rw [HQ3.out, HQ2.out, HQ1.out]; rfl)
  have HRR := Lib.hid (show Rws B w4 (mRows (.slice ea en ec) (.slice ka kn kc) (.slice fa fn fc) (.slice ra rn rc) vs en K fn rn ++ L) by
    have h1 := HR.out
    rw [HQ3.out, HQ2.out, HQ1.out] at h1
    exact h1)
  go_wp2_with fail
  go_ret
  exact ⟨by rw [← HQ.out]; rfl, HRR.out, HL.out, HK4.out⟩

set_option maxRecDepth 100000 in
set_option maxHeartbeats 4000000 in
theorem heldGate_any (w : World) (B : Nat) (de qu wi ti qa bu le pb pc pj pt nw la : Int) (ea : Option Addr) (en ec : Nat) (ka : Option Addr) (kn kc : Nat) (tu : Int) (fa : Option Addr) (fn fc : Nat) (ra : Option Addr) (rn rc : Nat) (tk ac dr : Int) (vs : List Value) (K : List Lk) (h : Rws B w (mRows (.slice ea en ec) (.slice ka kn kc) (.slice fa fn fc) (.slice ra rn rc) vs en K fn rn)) (hv : vs.length = K.length) (hB : B ≤ w.heap.size) (hs : Small en kn fn rn K) (hkn : kn = K.length) :
    Calls Tryz.prog 29 #[.agg #[.int .i64 de, .int .i64 qu, .int .i64 wi, .int .i64 ti, .int .i64 qa, .int .i64 bu, .int .i64 le, .int .i64 pb, .int .i64 pc, .int .i64 pj, .int .i64 pt, .int .i64 nw, .int .i64 la, .slice ea en ec, .slice ka kn kc, .int .i64 tu, .slice fa fn fc, .slice ra rn rc, .int .i64 tk, .int .i64 ac, .int .i64 dr], .int .i64 1] w fun e w' => e = .returned (.int .i64 (mq4 en K fn rn)) ∧ Below w.heap.size w w' := by
  obtain ⟨W0, hW0⟩ : ∃ W, W = w.alloc (.cells #[.int .i64 de, .int .i64 qu, .int .i64 wi, .int .i64 ti, .int .i64 qa, .int .i64 bu, .int .i64 le, .int .i64 pb, .int .i64 pc, .int .i64 pj, .int .i64 pt, .int .i64 nw, .int .i64 la, .slice ea en ec, .slice ka kn kc, .int .i64 tu, .slice fa fn fc, .slice ra rn rc, .int .i64 tk, .int .i64 ac, .int .i64 dr] 32) := ⟨_, rfl⟩
  have HX : Hid (Box W0 w.heap.size 32 [.int .i64 de, .int .i64 qu, .int .i64 wi, .int .i64 ti, .int .i64 qa, .int .i64 bu, .int .i64 le, .int .i64 pb, .int .i64 pc, .int .i64 pj, .int .i64 pt, .int .i64 nw, .int .i64 la, .slice ea en ec, .slice ka kn kc, .int .i64 tu, .slice fa fn fc, .slice ra rn rc, .int .i64 tk, .int .i64 ac, .int .i64 dr]) := Lib.hid (by rw [hW0]; exact Box.new w [.int .i64 de, .int .i64 qu, .int .i64 wi, .int .i64 ti, .int .i64 qa, .int .i64 bu, .int .i64 le, .int .i64 pb, .int .i64 pc, .int .i64 pj, .int .i64 pt, .int .i64 nw, .int .i64 la, .slice ea en ec, .slice ka kn kc, .int .i64 tu, .slice fa fn fc, .slice ra rn rc, .int .i64 tk, .int .i64 ac, .int .i64 dr] 32)
  have hb0 : Below w.heap.size w W0 := by rw [hW0]; exact bOne _ _
  have HR := Lib.hid (h.below hb0)
  have HL := Lib.hid hb0
  have HBW := Lib.hid (show B ≤ W0.heap.size from Nat.le_trans hB hb0.size)
  have HKL := Lib.hid hkn
  have HVL := Lib.hid hv
  have HS := Lib.hid hs
  have HWE := Lib.hid hW0
  clear h hW0 hb0 hB hs hv hkn
  have x13 := HX.out.cell 13 _ rfl
  go_enter Tryz.func29, Tryz.ntmps29
  go_wp2_with fail
  rw [← HWE.out]
  clear HWE
  refine (heldEventS_any _ W0.heap.size ea en ec 1 (ROwn.isN (HR.out.at_ (evR (.slice ea en ec) (mrkE 1 en)) (by simp [mRows, gRows]))) (Nat.le_refl _) (by have := HS.out.1; omega) (by omega) (by omega)).mono ?_
  rintro e w1 ⟨rfl, hg⟩
  have hb1 : Below W0.heap.size W0 w1 := (Below.refl _ _).grown hg (Nat.le_refl _) (fun q e => by cases e)
  replace HX := Lib.hid (HX.out.below hb1)
  replace HR := Lib.hid (HR.out.below hb1)
  replace HL := Lib.hid (low_after HL.out hb1)
  clear hg hb1 x13
  obtain ⟨q1, hq⟩ : ∃ q : Int, q = mq1 en := ⟨_, rfl⟩
  rw [show (1 : Int) + 9 * (en : Int) = q1 from hq.symm]
  have hq0 : 0 < q1 := by rw [hq]; exact (mq1_bd HS.out.1).1
  have hq1 : q1 ≤ 100000000 := by rw [hq]; exact (mq1_bd HS.out.1).2
  have hqn : ¬ q1 < 0 := by omega
  have HQ1 := Lib.hid hq
  clear hq
  have x14 := HX.out.cell 14 _ rfl
  have x16 := HX.out.cell 16 _ rfl
  have x17 := HX.out.cell 17 _ rfl
  go_wp2_with fail
  refine (heldLinkG_any _ w1.heap.size ka kn kc K q1 (by rw [HQ1.out]; exact Rws.lis (HR.out.perm (gRows_perm _ _ _ _ _ _ _ _ _)) (by rw [mkK_len]; exact HVL.out)) HS.out.2.2.1 (by have := HS.out.2.1; have := HKL.out; omega) (by omega) hq1).mono ?_
  rintro e w2 ⟨rfl, rfl⟩
  obtain ⟨q2, hq⟩ : ∃ q : Int, q = mkQ q1 K := ⟨_, rfl⟩
  rw [← hq]
  have hbd := mq2_bd HS.out.1 HS.out.2.2.1 (by have := HS.out.2.1; have := HKL.out; omega : K.length ≤ 1048576)
  have hq2 : 0 < q2 := by rw [hq, HQ1.out]; exact hbd.1
  have hq3 : q2 ≤ 10000000000000 := by rw [hq, HQ1.out]; exact hbd.2
  have hqn2 : ¬ q2 < 0 := by omega
  have HQ2 := Lib.hid (show q2 = mq2 en K by rw [hq, HQ1.out]; rfl)
  clear hq hbd
  go_wp2_with fail
  refine (heldIntG_any _ w1.heap.size fa fn fc q2 (by rw [HQ2.out]; exact Lnk.IOwn.isN (HR.out.at_ (inR (.slice fa fn fc) (mrkI (mq2 en K) fn)) (by simp [mRows, gRows]))) (by have := HS.out.2.2.2.1; omega) (by omega) (by omega)).mono ?_
  rintro e w2 ⟨rfl, rfl⟩
  obtain ⟨q3, hq⟩ : ∃ q : Int, q = q2 + (fn : Int) := ⟨_, rfl⟩
  rw [← hq]
  have hq4 : 0 < q3 := by omega
  have hq5 : q3 ≤ 20000000000000 := by have := HS.out.2.2.2.1; omega
  have hqn3 : ¬ q3 < 0 := by omega
  have HQ3 := Lib.hid (show q3 = mq3 en K fn by rw [hq, HQ2.out]; rfl)
  clear hq
  go_wp2_with fail
  refine (heldIntG_any _ w1.heap.size ra rn rc q3 (by rw [HQ3.out]; exact Lnk.IOwn.isN (HR.out.at_ (inR (.slice ra rn rc) (mrkI (mq3 en K fn) rn)) (by simp [mRows, gRows]))) (by have := HS.out.2.2.2.2; omega) (by omega) (by omega)).mono ?_
  rintro e w2 ⟨rfl, rfl⟩
  obtain ⟨q4, hq⟩ : ∃ q : Int, q = q3 + (rn : Int) := ⟨_, rfl⟩
  rw [← hq]
  have hqn4 : ¬ q4 < 0 := by omega
  have HQ4 := Lib.hid (show q4 = mq4 en K fn rn by rw [hq, HQ3.out]; rfl)
  clear hq
  go_wp2_with fail
  go_ret
  exact ⟨by rw [← HQ4.out]; rfl, HL.out⟩

end Go.Proofs.YtkndpkingmemoaaGreatDoor.Gat
namespace Go.Proofs.YtkndpkingmemoaaGreatDoor.Gat
open Go.RowKit
open Lnk (bOne bAfter IOwn IIs YOwn YIs below_keep below_drew' bcell low_after low_alloc grown_of_below)
set_option linter.unusedVariables false
set_option linter.unusedSimpArgs false

section
variable {P : Program} {w : World} {k : Nat} {T : TypeId} {l : List Value} {ops : Array Oper} {Q : Exit → Act → World → Prop} {o : Oper} {a : Act}
end
theorem Rw.At.offbox {B : Nat} {w : World} {r : Rw} {k : Nat} {T : TypeId} {l : List Value} (h : r.At B w) (hb : Box w k T l) (hne : r.E ≠ T) : r.v.ownBlock = none ∨ r.v.ownBlock ≠ some k := by
  rcases h.2 with ⟨e, _⟩ | ⟨g, c, cur, e, _, hg, _⟩
  · left; rw [e]; rfl
  · right
    rw [e]
    intro e2
    simp only [Value.ownBlock, Option.some.injEq] at e2
    subst e2
    have h1 : w.heap[g]? = some (.cells l.toArray T) := hb
    rw [hg] at h1
    simp only [Option.some.injEq, Obj.cells.injEq] at h1
    exact hne h1.2.1
theorem Rws.offbox {B : Nat} {w w' : World} {L : List Rw} {k : Nat} {T : TypeId} {l : List Value} (h : Rws B w L) (hb : Box w k T l) (hne : ∀ r ∈ L, r.E ≠ T) (hg : w.grownBy w' (some k)) : Rws B w' L := h.kept hg fun r hr => (h.at_ r hr).offbox hb (hne r hr)
theorem flRs_ty : ∀ {K : List Lk} {vs : List Value} {r : Rw}, r ∈ flRs K vs → r.E = 95
  | [], _, r, h => by simp [flRs] at h
  | k :: K, [], r, h => by simp [flRs] at h
  | k :: K, v :: vs, r, h => by
    simp only [flRs, List.mem_cons] at h
    rcases h with rfl | h
    · rfl
    · exact flRs_ty h
theorem gRows_ty {ev lk lf lt : Value} {vs : List Value} {E : List Ev} {K : List Lk} {F R : List Int} : ∀ r ∈ gRows ev lk lf lt vs E K F R, r.E ≠ 32 := by
  intro r hr
  unfold gRows at hr
  simp only [List.mem_cons] at hr
  rcases hr with rfl | rfl | rfl | rfl | hr
  · exact (by decide : (39 : TypeId) ≠ 32)
  · exact (by decide : (82 : TypeId) ≠ 32)
  · exact (by decide : (3 : TypeId) ≠ 32)
  · exact (by decide : (3 : TypeId) ≠ 32)
  · rw [flRs_ty hr]
    exact (by decide : (95 : TypeId) ≠ 32)
theorem GOwn.offbox {B : Nat} {w w' : World} {ev lk lf lt : Value} {vs : List Value} {E : List Ev} {K : List Lk} {F R : List Int} {k : Nat} {l : List Value} (h : GOwn B w ev lk lf lt vs E K F R) (hb : Box w k 32 l) (hg : w.grownBy w' (some k)) : GOwn B w' ev lk lf lt vs E K F R := ⟨h.rows.offbox hb gRows_ty hg, h.len, h.body⟩
theorem results_box2 {P : Program} {w : World} {fn : Func} {t s : Tmp} {ty T : TypeId} {k : Nat} {l : List Value} {v : Value} (tmps : Array Value) (h : fn.results = #[.cell t ty, .tmp s]) (hs : tmps.getD t undef = .pointer (some ⟨k, 0, none⟩)) (hv : tmps.getD s undef = v) (hb : Box w k T l) (fs : Array Field) (hu : P.underlying ty = some (.struct fs)) (hi : (P.info? ty).map (·.size) = some l.length) :
    (results fn tmps).run P w = .ok (.tuple #[.agg l.toArray, v]) w := by
  have hrun := run_loadVar_row (P := P) w k T ty l.toArray (0, 0) _ hb hu rfl (by simpa using hi)
  have hs' : tmps[t]?.getD undef = .pointer (some ⟨k, 0, none⟩) := by rw [← hs]; simp [Array.getD_eq_getD_getElem?]
  have hv' : tmps[s]?.getD undef = v := by rw [← hv]; simp [Array.getD_eq_getD_getElem?]
  simp [results, h, hs', hv', asAddr, hrun]
theorem results_box3 {P : Program} {w : World} {fn : Func} {t s u : Tmp} {ty T : TypeId} {k : Nat} {l : List Value} {v v2 : Value} (tmps : Array Value) (h : fn.results = #[.cell t ty, .tmp s, .tmp u]) (hs : tmps.getD t undef = .pointer (some ⟨k, 0, none⟩)) (hv : tmps.getD s undef = v) (hv2 : tmps.getD u undef = v2) (hb : Box w k T l) (fs : Array Field) (hu : P.underlying ty = some (.struct fs)) (hi : (P.info? ty).map (·.size) = some l.length) :
    (results fn tmps).run P w = .ok (.tuple #[.agg l.toArray, v, v2]) w := by
  have hrun := run_loadVar_row (P := P) w k T ty l.toArray (0, 0) _ hb hu rfl (by simpa using hi)
  have hs' : tmps[t]?.getD undef = .pointer (some ⟨k, 0, none⟩) := by rw [← hs]; simp [Array.getD_eq_getD_getElem?]
  have hv' : tmps[s]?.getD undef = v := by rw [← hv]; simp [Array.getD_eq_getD_getElem?]
  have hw' : tmps[u]?.getD undef = v2 := by rw [← hv2]; simp [Array.getD_eq_getD_getElem?]
  simp [results, h, hs', hv', hw', asAddr, hrun]
section
variable {B : Nat} {w w' : World} {ev lk lf lt : Value} {vs : List Value} {E : List Ev} {K : List Lk} {F R : List Int}
/-- a new row of messages -/
theorem GOwn.newEv {ev' : Value} {E' : List Ev} (h : GOwn B w ev lk lf lt vs E K F R) (hb : Below w.heap.size w w') (ho : ROwn evS w.heap.size w' 39 ev' E') (hB : B ≤ w.heap.size) (hbd : ∀ e ∈ E', e.b.size ≤ maxLen) : GOwn B w' ev' lk lf lt vs E' K F R :=
  ⟨h.rows.tail.new (r := evR ev' E') hb ho hB, h.len, hbd⟩
end
def sel {α : Type} (ok : Bool) (a b : α) : α := if ok then a else b
theorem sel_yes {α : Type} (a b : α) : sel true a b = a := rfl
theorem sel_no {α : Type} (a b : α) : sel false a b = b := rfl
def goneAll (E : List Ev) (ids : List Int) : List Ev := ids.foldl (fun E id => goneE id E) E
end Go.Proofs.YtkndpkingmemoaaGreatDoor.Gat
