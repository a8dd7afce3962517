/-
  Marks in a whole gate: written, and read again.
  The specification's Drain.
-/
import Derived.Test.YtlcllbdalabciaaMgk
import Derived.Test.YtlcllbdalabciaaMgc
import Derived.Test.YtlcllbdalabciaaMgj
namespace Go.Proofs.Ytlcllbdalabciaa.Gat
open Go.RowKit
open Lnk (bOne bAfter IOwn IIs YOwn YIs Y below_keep below_drew' bcell low_after low_alloc grown_of_below mrkY mrkI)
set_option linter.unusedVariables false
set_option linter.unusedSimpArgs false

def mq1 (en : Nat) : Int := 1 + 9 * (en : Int)
def mq2 (en : Nat) (K : List Lk) : Int := mkQ (mq1 en) K
def mq3 (en : Nat) (K : List Lk) (fn : Nat) : Int := mq2 en K + (fn : Int)
def mq4 (en : Nat) (K : List Lk) (fn rn : Nat) : Int := mq3 en K fn + (rn : Int)
theorem mq4_pos (en : Nat) (K : List Lk) (fn rn : Nat) : ¬ mq4 en K fn rn < 0 := by
  have h1 := mkQ_lo K (mq1 en)
  unfold mq4 mq3 mq2
  unfold mq1 at *
  omega
/-- a struct read whole, at an operation whose guard says yes -/
theorem wpList_load_boxw {P : Program} {w : World} {ops : Array Oper} {rest : List Oper} {o : Oper} {a : Act} {Q : Exit → Act → World → Prop} {k : Nat} {T : TypeId} {l : List Value} (hg : Region.wanted o (yielded ops a.tmps) = true) (p : Operand) (t : TypeId) (hop : o.op = .load t p) (hs : a.eval p = .pointer (some ⟨k, 0, none⟩)) (hb : Box w k T l) (fs : Array Field) (hu : P.underlying t = some (.struct fs)) (hi : (P.info? t).map (·.size) = some l.length)
    (h : wpList P ops Q rest (a.put o.dst (.agg l.toArray)) w) : wpList P ops Q (o :: rest) a w := by
  refine wpList_step fun K' hK' => ?_
  rw [if_pos hg]
  unfold Oper.wp
  rw [exec_load_box (ρ := a.eval) p t hop hs hb fs hu hi]
  exact hK' _ _ h
/-- the rows of a gate as the marks leave them -/
def mRows (ev lk lf lt : Value) (vs : List Value) (en : Nat) (K : List Lk) (fn rn : Nat) : List Rw := gRows ev lk lf lt vs (mrkE 1 en) (mkK (mq1 en) K) (mrkI (mq2 en K) fn) (mrkI (mq3 en K fn) rn)
theorem mq1_bd {en : Nat} (h : en ≤ 1048576) : 0 < mq1 en ∧ mq1 en ≤ 100000000 := by unfold mq1; omega
theorem mq2_bd {en : Nat} {K : List Lk} (h : en ≤ 1048576) (hk : ∀ k ∈ K, k.l.length ≤ 1048576) (hn : K.length ≤ 1048576) : 0 < mq2 en K ∧ mq2 en K ≤ 10000000000000 := by
  have h1 := mq1_bd h
  have h2 := mkQ_bd (j := K.length) hk hn h1.2
  rw [List.take_length] at h2
  have h3 := mkQ_lo K (mq1 en)
  unfold mq2
  omega
theorem Rws.lis {B : Nat} {w : World} {ka : Option Addr} {kn kc : Nat} {vs : List Value} {K : List Lk} {L : List Rw} (h : Rws B w (lrR (.slice ka kn kc) (rawOf K vs) :: (flRs K vs ++ L))) (hv : vs.length = K.length) : LIs w.heap.size w ka kn K := by
  have hlk : RIs lrS w.heap.size w ka kn (rawOf K vs) := ROwn.isN h.head
  refine ⟨rawOf K vs, hlk, rawOf_len hv, fun k hk hk' => ?_⟩
  have hvk : k < vs.length := by rw [hv]; exact hk'
  have hfk : k < (flRs K vs).length := by rw [flRs_len hv]; exact hk'
  rw [rawOf_get k hk hk' hvk]
  have hf : YOwn B w 113 vs[k] K[k].l := by
    have h1 := h.at_ (flRs K vs)[k] (by simp)
    rw [flRs_get k hfk hk' hvk] at h1
    exact h1
  obtain ⟨a, c, e⟩ := hf.shape
  rw [e] at hf
  exact ⟨rfl, rfl, rfl, a, _, c, e, hf.isN⟩
theorem gRows_perm (ev lk lf lt : Value) (vs : List Value) (E : List Ev) (K : List Lk) (F R : List Int) : (gRows ev lk lf lt vs E K F R).Perm (lrR lk (rawOf K vs) :: (flRs K vs ++ [evR ev E, inR lf F, inR lt R])) := by
  unfold gRows
  refine (List.Perm.swap _ _ _).trans (List.Perm.cons _ ?_)
  exact List.perm_append_comm (l₁ := [evR ev E, inR lf F, inR lt R])

theorem gRows_permL (ev lk lf lt : Value) (vs : List Value) (E : List Ev) (K : List Lk) (F R : List Int) (L : List Rw) : (gRows ev lk lf lt vs E K F R ++ L).Perm (lrR lk (rawOf K vs) :: (flRs K vs ++ ([evR ev E, inR lf F, inR lt R] ++ L))) := by
  have h1 := (gRows_perm ev lk lf lt vs E K F R).append_right L
  rw [List.cons_append, List.append_assoc] at h1
  exact h1

set_option maxRecDepth 100000 in
set_option maxHeartbeats 4000000 in
theorem markGate_any (w : World) (B : Nat) (de qu wi ti qa bu le pb pc pj pt nw la : Int) (ea : Option Addr) (en ec : Nat) (ka : Option Addr) (kn kc : Nat) (tu : Int) (fa : Option Addr) (fn fc : Nat) (ra : Option Addr) (rn rc : Nat) (tk ac dr : Int) (vs : List Value) (E : List Ev) (K : List Lk) (F R : List Int) (L : List Rw) (h : Rws B w (gRows (.slice ea en ec) (.slice ka kn kc) (.slice fa fn fc) (.slice ra rn rc) vs E K F R ++ L)) (hlen : vs.length = K.length) (hB : B ≤ w.heap.size) (hs : Small en kn fn rn K) :
    Calls Try.prog 14 #[.agg #[.int .i64 de, .int .i64 qu, .int .i64 wi, .int .i64 ti, .int .i64 qa, .int .i64 bu, .int .i64 le, .int .i64 pb, .int .i64 pc, .int .i64 pj, .int .i64 pt, .int .i64 nw, .int .i64 la, .slice ea en ec, .slice ka kn kc, .int .i64 tu, .slice fa fn fc, .slice ra rn rc, .int .i64 tk, .int .i64 ac, .int .i64 dr], .int .i64 1] w fun e w' => e = .returned (.int .i64 (mq4 en K fn rn)) ∧ Rws B w' (mRows (.slice ea en ec) (.slice ka kn kc) (.slice fa fn fc) (.slice ra rn rc) vs en K fn rn ++ L) ∧ Below B w w' ∧ Keep4 w w' := by
  obtain ⟨W0, hW0⟩ : ∃ W, W = w.alloc (.cells #[.int .i64 de, .int .i64 qu, .int .i64 wi, .int .i64 ti, .int .i64 qa, .int .i64 bu, .int .i64 le, .int .i64 pb, .int .i64 pc, .int .i64 pj, .int .i64 pt, .int .i64 nw, .int .i64 la, .slice ea en ec, .slice ka kn kc, .int .i64 tu, .slice fa fn fc, .slice ra rn rc, .int .i64 tk, .int .i64 ac, .int .i64 dr] 38) := ⟨_, rfl⟩
  have HX : Hid (Box W0 w.heap.size 38 [.int .i64 de, .int .i64 qu, .int .i64 wi, .int .i64 ti, .int .i64 qa, .int .i64 bu, .int .i64 le, .int .i64 pb, .int .i64 pc, .int .i64 pj, .int .i64 pt, .int .i64 nw, .int .i64 la, .slice ea en ec, .slice ka kn kc, .int .i64 tu, .slice fa fn fc, .slice ra rn rc, .int .i64 tk, .int .i64 ac, .int .i64 dr]) := Lib.hid (by rw [hW0]; exact Box.new w [.int .i64 de, .int .i64 qu, .int .i64 wi, .int .i64 ti, .int .i64 qa, .int .i64 bu, .int .i64 le, .int .i64 pb, .int .i64 pc, .int .i64 pj, .int .i64 pt, .int .i64 nw, .int .i64 la, .slice ea en ec, .slice ka kn kc, .int .i64 tu, .slice fa fn fc, .slice ra rn rc, .int .i64 tk, .int .i64 ac, .int .i64 dr] 38)
  have hb0 : Below w.heap.size w W0 := by rw [hW0]; exact bOne _ _
  have HR := Lib.hid (h.below hb0)
  have HL := Lib.hid (hb0.mono hB)
  have HK4 := Lib.hid (Keep4.below hb0)
  have HBW := Lib.hid (show B ≤ W0.heap.size from Nat.le_trans hB hb0.size)
  have HKL := Lib.hid (show kn = K.length from by have h1 : ROwn lrS B w 56 (.slice ka kn kc) (rawOf K vs) := h.at_ (lrR (.slice ka kn kc) (rawOf K vs)) (by simp [gRows]); have h2 := h1.is.1; rw [rawOf_len hlen] at h2; exact h2)
  have HVL := Lib.hid hlen
  have HS := Lib.hid hs
  have HWE := Lib.hid hW0
  clear h hW0 hb0 hB hs hlen
  have x13 := HX.out.cell 13 _ rfl
  have x14 := HX.out.cell 14 _ rfl
  go_enter Try.func14, Try.ntmps14
  go_wp2_with fail
  rw [← HWE.out]
  clear HWE
  refine (markEventS_any _ B ea en ec E 1 (HR.out.at_ (evR (.slice ea en ec) E) (by simp [gRows])) (by have := HS.out.1; omega) (by omega) (by omega)).mono ?_
  rintro e w1 ⟨rfl, ho, hg⟩
  have hat : (evR (.slice ea en ec) E).At B W0 := HR.out.at_ _ (by simp [gRows])
  replace HX := Lib.hid (HX.out.grown hg (hat.ne_box rfl HX.out rfl))
  replace HK4 := Lib.hid (HK4.out.trans (Keep4.row hat rfl hg))
  replace HL := Lib.hid (HL.out.grown hg HBW.out (fun q e => (hat.lt q e).1))
  have hr1 : Rws B w1 (gRows (.slice ea en ec) (.slice ka kn kc) (.slice fa fn fc) (.slice ra rn rc) vs (mrkE 1 en) K F R ++ L) := by
    have hm := HR.out.mod (s := evR (.slice ea en ec) (mrkE 1 en)) 0 (by simp [gRows]) hg ho rfl
    exact hm
  replace HBW := Lib.hid (Nat.le_trans HBW.out hg.size)
  replace HR := Lib.hid hr1
  clear hg ho hat hr1 x13 x14
  obtain ⟨q1, hq⟩ : ∃ q : Int, q = mq1 en := ⟨_, rfl⟩
  rw [show (1 : Int) + 9 * (en : Int) = q1 from hq.symm]
  have hq0 : 0 < q1 := by rw [hq]; exact (mq1_bd HS.out.1).1
  have hq1 : q1 ≤ 100000000 := by rw [hq]; exact (mq1_bd HS.out.1).2
  have HQ1 := Lib.hid hq
  clear hq
  have x14 := HX.out.cell 14 _ rfl
  have x16 := HX.out.cell 16 _ rfl
  go_wp2_with fail
  refine (markLinkG_any _ B ka kn kc K vs ([evR (.slice ea en ec) (mrkE 1 en), inR (.slice fa fn fc) F, inR (.slice ra rn rc) R] ++ L) q1 (HR.out.perm (gRows_permL _ _ _ _ _ _ _ _ _ _)) HBW.out HVL.out HS.out.2.2.1 (by have := HS.out.2.1; have := HKL.out; omega) (by omega) hq1).mono ?_
  rintro e w2 ⟨rfl, hr, hl, hk⟩
  replace HX := Lib.hid (hk.box HX.out rfl)
  replace HK4 := Lib.hid (HK4.out.trans hk)
  replace HL := Lib.hid (HL.out.trans hl)
  replace HBW := Lib.hid (Nat.le_trans HBW.out hl.size)
  replace HR := Lib.hid (hr.perm (gRows_permL (.slice ea en ec) (.slice ka kn kc) (.slice fa fn fc) (.slice ra rn rc) vs (mrkE 1 en) (mkK q1 K) F R L).symm)
  clear hr hl hk x14 x16
  obtain ⟨q2, hq⟩ : ∃ q : Int, q = mkQ q1 K := ⟨_, rfl⟩
  rw [← hq]
  have hbd := mq2_bd HS.out.1 HS.out.2.2.1 (by have := HS.out.2.1; have := HKL.out; omega : K.length ≤ 1048576)
  have hq2 : 0 < q2 := by rw [hq, HQ1.out]; exact hbd.1
  have hq3 : q2 ≤ 10000000000000 := by rw [hq, HQ1.out]; exact hbd.2
  have HQ2 := Lib.hid hq
  clear hq hbd
  have x16 := HX.out.cell 16 _ rfl
  have x17 := HX.out.cell 17 _ rfl
  go_wp2_with fail
  refine (markIntG_any _ B fa fn fc F q2 (HR.out.at_ (inR (.slice fa fn fc) F) (by simp [gRows])) (by have := HS.out.2.2.2.1; omega) (by omega) (by omega)).mono ?_
  rintro e w3 ⟨rfl, ho, hg⟩
  have hat : (inR (.slice fa fn fc) F).At B w2 := HR.out.at_ _ (by simp [gRows])
  replace HX := Lib.hid (HX.out.grown hg (hat.ne_box rfl HX.out rfl))
  replace HK4 := Lib.hid (HK4.out.trans (Keep4.row hat rfl hg))
  replace HL := Lib.hid (HL.out.grown hg HBW.out (fun q e => (hat.lt q e).1))
  have hr1 : Rws B w3 (gRows (.slice ea en ec) (.slice ka kn kc) (.slice fa fn fc) (.slice ra rn rc) vs (mrkE 1 en) (mkK q1 K) (mrkI q2 fn) R ++ L) := HR.out.mod (s := inR (.slice fa fn fc) (mrkI q2 fn)) 2 (by simp [gRows]) hg ho rfl
  replace HBW := Lib.hid (Nat.le_trans HBW.out hg.size)
  replace HR := Lib.hid hr1
  clear hg ho hat hr1 x16 x17
  obtain ⟨q3, hq⟩ : ∃ q : Int, q = q2 + (fn : Int) := ⟨_, rfl⟩
  rw [← hq]
  have hq4 : 0 < q3 := by omega
  have hq5 : q3 ≤ 20000000000000 := by have := HS.out.2.2.2.1; omega
  have HQ3 := Lib.hid hq
  clear hq
  have x17 := HX.out.cell 17 _ rfl
  go_wp2_with fail
  refine (markIntG_any _ B ra rn rc R q3 (HR.out.at_ (inR (.slice ra rn rc) R) (by simp [gRows])) (by have := HS.out.2.2.2.2; omega) (by omega) (by omega)).mono ?_
  rintro e w4 ⟨rfl, ho, hg⟩
  have hat : (inR (.slice ra rn rc) R).At B w3 := HR.out.at_ _ (by simp [gRows])
  replace HK4 := Lib.hid (HK4.out.trans (Keep4.row hat rfl hg))
  replace HL := Lib.hid (HL.out.grown hg HBW.out (fun q e => (hat.lt q e).1))
  have hr1 : Rws B w4 (gRows (.slice ea en ec) (.slice ka kn kc) (.slice fa fn fc) (.slice ra rn rc) vs (mrkE 1 en) (mkK q1 K) (mrkI q2 fn) (mrkI q3 rn) ++ L) := HR.out.mod (s := inR (.slice ra rn rc) (mrkI q3 rn)) 3 (by simp [gRows]) hg ho rfl
  replace HR := Lib.hid hr1
  clear hg ho hat hr1 x17
  have HQ := Lib.hid (show q3 + (rn : Int) = mq4 en K fn rn by rw [HQ3.out, HQ2.out, HQ1.out]; rfl)
  have HRR := Lib.hid (show Rws B w4 (mRows (.slice ea en ec) (.slice ka kn kc) (.slice fa fn fc) (.slice ra rn rc) vs en K fn rn ++ L) by
    have h1 := HR.out
    rw [HQ3.out, HQ2.out, HQ1.out] at h1
    exact h1)
  go_wp2_with fail
  go_ret
  exact ⟨by rw [← HQ.out]; rfl, HRR.out, HL.out, HK4.out⟩

set_option maxRecDepth 100000 in
set_option maxHeartbeats 4000000 in
theorem heldGate_any (w : World) (B : Nat) (de qu wi ti qa bu le pb pc pj pt nw la : Int) (ea : Option Addr) (en ec : Nat) (ka : Option Addr) (kn kc : Nat) (tu : Int) (fa : Option Addr) (fn fc : Nat) (ra : Option Addr) (rn rc : Nat) (tk ac dr : Int) (vs : List Value) (K : List Lk) (h : Rws B w (mRows (.slice ea en ec) (.slice ka kn kc) (.slice fa fn fc) (.slice ra rn rc) vs en K fn rn)) (hv : vs.length = K.length) (hB : B ≤ w.heap.size) (hs : Small en kn fn rn K) (hkn : kn = K.length) :
    Calls Try.prog 15 #[.agg #[.int .i64 de, .int .i64 qu, .int .i64 wi, .int .i64 ti, .int .i64 qa, .int .i64 bu, .int .i64 le, .int .i64 pb, .int .i64 pc, .int .i64 pj, .int .i64 pt, .int .i64 nw, .int .i64 la, .slice ea en ec, .slice ka kn kc, .int .i64 tu, .slice fa fn fc, .slice ra rn rc, .int .i64 tk, .int .i64 ac, .int .i64 dr], .int .i64 1] w fun e w' => e = .returned (.int .i64 (mq4 en K fn rn)) ∧ Below w.heap.size w w' := by
  obtain ⟨W0, hW0⟩ : ∃ W, W = w.alloc (.cells #[.int .i64 de, .int .i64 qu, .int .i64 wi, .int .i64 ti, .int .i64 qa, .int .i64 bu, .int .i64 le, .int .i64 pb, .int .i64 pc, .int .i64 pj, .int .i64 pt, .int .i64 nw, .int .i64 la, .slice ea en ec, .slice ka kn kc, .int .i64 tu, .slice fa fn fc, .slice ra rn rc, .int .i64 tk, .int .i64 ac, .int .i64 dr] 38) := ⟨_, rfl⟩
  have HX : Hid (Box W0 w.heap.size 38 [.int .i64 de, .int .i64 qu, .int .i64 wi, .int .i64 ti, .int .i64 qa, .int .i64 bu, .int .i64 le, .int .i64 pb, .int .i64 pc, .int .i64 pj, .int .i64 pt, .int .i64 nw, .int .i64 la, .slice ea en ec, .slice ka kn kc, .int .i64 tu, .slice fa fn fc, .slice ra rn rc, .int .i64 tk, .int .i64 ac, .int .i64 dr]) := Lib.hid (by rw [hW0]; exact Box.new w [.int .i64 de, .int .i64 qu, .int .i64 wi, .int .i64 ti, .int .i64 qa, .int .i64 bu, .int .i64 le, .int .i64 pb, .int .i64 pc, .int .i64 pj, .int .i64 pt, .int .i64 nw, .int .i64 la, .slice ea en ec, .slice ka kn kc, .int .i64 tu, .slice fa fn fc, .slice ra rn rc, .int .i64 tk, .int .i64 ac, .int .i64 dr] 38)
  have hb0 : Below w.heap.size w W0 := by rw [hW0]; exact bOne _ _
  have HR := Lib.hid (h.below hb0)
  have HL := Lib.hid hb0
  have HBW := Lib.hid (show B ≤ W0.heap.size from Nat.le_trans hB hb0.size)
  have HKL := Lib.hid hkn
  have HVL := Lib.hid hv
  have HS := Lib.hid hs
  have HWE := Lib.hid hW0
  clear h hW0 hb0 hB hs hv hkn
  have x13 := HX.out.cell 13 _ rfl
  go_enter Try.func15, Try.ntmps15
  go_wp2_with fail
  rw [← HWE.out]
  clear HWE
  refine (heldEventS_any _ W0.heap.size ea en ec 1 (ROwn.isN (HR.out.at_ (evR (.slice ea en ec) (mrkE 1 en)) (by simp [mRows, gRows]))) (Nat.le_refl _) (by have := HS.out.1; omega) (by omega) (by omega)).mono ?_
  rintro e w1 ⟨rfl, hg⟩
  have hb1 : Below W0.heap.size W0 w1 := (Below.refl _ _).grown hg (Nat.le_refl _) (fun q e => by cases e)
  replace HX := Lib.hid (HX.out.below hb1)
  replace HR := Lib.hid (HR.out.below hb1)
  replace HL := Lib.hid (low_after HL.out hb1)
  clear hg hb1 x13
  obtain ⟨q1, hq⟩ : ∃ q : Int, q = mq1 en := ⟨_, rfl⟩
  rw [show (1 : Int) + 9 * (en : Int) = q1 from hq.symm]
  have hq0 : 0 < q1 := by rw [hq]; exact (mq1_bd HS.out.1).1
  have hq1 : q1 ≤ 100000000 := by rw [hq]; exact (mq1_bd HS.out.1).2
  have hqn : ¬ q1 < 0 := by omega
  have HQ1 := Lib.hid hq
  clear hq
  have x14 := HX.out.cell 14 _ rfl
  have x16 := HX.out.cell 16 _ rfl
  have x17 := HX.out.cell 17 _ rfl
  go_wp2_with fail
  refine (heldLinkG_any _ w1.heap.size ka kn kc K q1 (by rw [HQ1.out]; exact Rws.lis (HR.out.perm (gRows_perm _ _ _ _ _ _ _ _ _)) (by rw [mkK_len]; exact HVL.out)) HS.out.2.2.1 (by have := HS.out.2.1; have := HKL.out; omega) (by omega) hq1).mono ?_
  rintro e w2 ⟨rfl, rfl⟩
  obtain ⟨q2, hq⟩ : ∃ q : Int, q = mkQ q1 K := ⟨_, rfl⟩
  rw [← hq]
  have hbd := mq2_bd HS.out.1 HS.out.2.2.1 (by have := HS.out.2.1; have := HKL.out; omega : K.length ≤ 1048576)
  have hq2 : 0 < q2 := by rw [hq, HQ1.out]; exact hbd.1
  have hq3 : q2 ≤ 10000000000000 := by rw [hq, HQ1.out]; exact hbd.2
  have hqn2 : ¬ q2 < 0 := by omega
  have HQ2 := Lib.hid (show q2 = mq2 en K by rw [hq, HQ1.out]; rfl)
  clear hq hbd
  go_wp2_with fail
  refine (heldIntG_any _ w1.heap.size fa fn fc q2 (by rw [HQ2.out]; exact Lnk.IOwn.isN (HR.out.at_ (inR (.slice fa fn fc) (mrkI (mq2 en K) fn)) (by simp [mRows, gRows]))) (by have := HS.out.2.2.2.1; omega) (by omega) (by omega)).mono ?_
  rintro e w2 ⟨rfl, rfl⟩
  obtain ⟨q3, hq⟩ : ∃ q : Int, q = q2 + (fn : Int) := ⟨_, rfl⟩
  rw [← hq]
  have hq4 : 0 < q3 := by omega
  have hq5 : q3 ≤ 20000000000000 := by have := HS.out.2.2.2.1; omega
  have hqn3 : ¬ q3 < 0 := by omega
  have HQ3 := Lib.hid (show q3 = mq3 en K fn by rw [hq, HQ2.out]; rfl)
  clear hq
  go_wp2_with fail
  refine (heldIntG_any _ w1.heap.size ra rn rc q3 (by rw [HQ3.out]; exact Lnk.IOwn.isN (HR.out.at_ (inR (.slice ra rn rc) (mrkI (mq3 en K fn) rn)) (by simp [mRows, gRows]))) (by have := HS.out.2.2.2.2; omega) (by omega) (by omega)).mono ?_
  rintro e w2 ⟨rfl, rfl⟩
  obtain ⟨q4, hq⟩ : ∃ q : Int, q = q3 + (rn : Int) := ⟨_, rfl⟩
  rw [← hq]
  have hqn4 : ¬ q4 < 0 := by omega
  have HQ4 := Lib.hid (show q4 = mq4 en K fn rn by rw [hq, HQ3.out]; rfl)
  clear hq
  go_wp2_with fail
  go_ret
  exact ⟨by rw [← HQ4.out]; rfl, HL.out⟩

end Go.Proofs.Ytlcllbdalabciaa.Gat
namespace Go.Proofs.Ytlcllbdalabciaa.Gat
open Go.RowKit
open Lnk (bOne bAfter IOwn IIs YOwn YIs below_keep below_drew' bcell low_after low_alloc grown_of_below)
set_option linter.unusedVariables false
set_option linter.unusedSimpArgs false

section
variable {P : Program} {w : World} {k : Nat} {T : TypeId} {l : List Value} {ops : Array Oper} {Q : Exit → Act → World → Prop} {o : Oper} {a : Act}
/-- a struct read whole, in a drawn region -/
theorem step_load_box {K : Act → World → Prop} {E : Prop} (hg : o.guard = none) (p : Operand) (t : TypeId) (hop : o.op = .load t p) (hs : a.eval p = .pointer (some ⟨k, 0, none⟩)) (hb : Box w k T l) (fs : Array Field) (hu : P.underlying t = some (.struct fs)) (hi : (P.info? t).map (·.size) = some l.length)
    (h : K (a.put o.dst (.agg l.toArray)) w) : if Region.wanted o (yielded ops a.tmps) = true then Oper.wp P o a w K Q else E := by
  rw [if_pos (by simp [Region.wanted, hg])]
  unfold Oper.wp
  rw [exec_load_box (ρ := a.eval) p t hop hs hb fs hu hi]
  exact h
end
theorem Rw.At.offbox {B : Nat} {w : World} {r : Rw} {k : Nat} {T : TypeId} {l : List Value} (h : r.At B w) (hb : Box w k T l) (hne : r.E ≠ T) : r.v.ownBlock = none ∨ r.v.ownBlock ≠ some k := by
  rcases h.2 with ⟨e, _⟩ | ⟨g, c, cur, e, _, hg, _⟩
  · left; rw [e]; rfl
  · right
    rw [e]
    intro e2
    simp only [Value.ownBlock, Option.some.injEq] at e2
    subst e2
    have h1 : w.heap[g]? = some (.cells l.toArray T) := hb
    rw [hg] at h1
    simp only [Option.some.injEq, Obj.cells.injEq] at h1
    exact hne h1.2.1
theorem Rws.offbox {B : Nat} {w w' : World} {L : List Rw} {k : Nat} {T : TypeId} {l : List Value} (h : Rws B w L) (hb : Box w k T l) (hne : ∀ r ∈ L, r.E ≠ T) (hg : w.grownBy w' (some k)) : Rws B w' L := h.kept hg fun r hr => (h.at_ r hr).offbox hb (hne r hr)
theorem flRs_ty : ∀ {K : List Lk} {vs : List Value} {r : Rw}, r ∈ flRs K vs → r.E = 113
  | [], _, r, h => by simp [flRs] at h
  | k :: K, [], r, h => by simp [flRs] at h
  | k :: K, v :: vs, r, h => by
    simp only [flRs, List.mem_cons] at h
    rcases h with rfl | h
    · rfl
    · exact flRs_ty h
theorem gRows_ty {ev lk lf lt : Value} {vs : List Value} {E : List Ev} {K : List Lk} {F R : List Int} : ∀ r ∈ gRows ev lk lf lt vs E K F R, r.E ≠ 38 := by
  intro r hr
  unfold gRows at hr
  simp only [List.mem_cons] at hr
  rcases hr with rfl | rfl | rfl | rfl | hr
  · exact (by decide : (81 : TypeId) ≠ 38)
  · exact (by decide : (56 : TypeId) ≠ 38)
  · exact (by decide : (3 : TypeId) ≠ 38)
  · exact (by decide : (3 : TypeId) ≠ 38)
  · rw [flRs_ty hr]
    exact (by decide : (113 : TypeId) ≠ 38)
theorem gRowsI_ty {u : Value} {xs : List Int} {ev lk lf lt : Value} {vs : List Value} {E : List Ev} {K : List Lk} {F R : List Int} : ∀ r ∈ inR u xs :: gRows ev lk lf lt vs E K F R, r.E ≠ 38 := by
  intro r hr
  rcases List.mem_cons.1 hr with rfl | hr
  · exact (by decide : (3 : TypeId) ≠ 38)
  · exact gRows_ty r hr
theorem GOwn.offbox {B : Nat} {w w' : World} {ev lk lf lt : Value} {vs : List Value} {E : List Ev} {K : List Lk} {F R : List Int} {k : Nat} {l : List Value} (h : GOwn B w ev lk lf lt vs E K F R) (hb : Box w k 38 l) (hg : w.grownBy w' (some k)) : GOwn B w' ev lk lf lt vs E K F R := ⟨h.rows.offbox hb gRows_ty hg, h.len, h.body⟩
theorem results_box2 {P : Program} {w : World} {fn : Func} {t s : Tmp} {ty T : TypeId} {k : Nat} {l : List Value} {v : Value} (tmps : Array Value) (h : fn.results = #[.cell t ty, .tmp s]) (hs : tmps.getD t undef = .pointer (some ⟨k, 0, none⟩)) (hv : tmps.getD s undef = v) (hb : Box w k T l) (fs : Array Field) (hu : P.underlying ty = some (.struct fs)) (hi : (P.info? ty).map (·.size) = some l.length) :
    (results fn tmps).run P w = .ok (.tuple #[.agg l.toArray, v]) w := by
  have hrun := run_loadVar_row (P := P) w k T ty l.toArray (0, 0) _ hb hu rfl (by simpa using hi)
  have hs' : tmps[t]?.getD undef = .pointer (some ⟨k, 0, none⟩) := by rw [← hs]; simp [Array.getD_eq_getD_getElem?]
  have hv' : tmps[s]?.getD undef = v := by rw [← hv]; simp [Array.getD_eq_getD_getElem?]
  simp [results, h, hs', hv', asAddr, hrun]
theorem results_box3 {P : Program} {w : World} {fn : Func} {t s u : Tmp} {ty T : TypeId} {k : Nat} {l : List Value} {v v2 : Value} (tmps : Array Value) (h : fn.results = #[.cell t ty, .tmp s, .tmp u]) (hs : tmps.getD t undef = .pointer (some ⟨k, 0, none⟩)) (hv : tmps.getD s undef = v) (hv2 : tmps.getD u undef = v2) (hb : Box w k T l) (fs : Array Field) (hu : P.underlying ty = some (.struct fs)) (hi : (P.info? ty).map (·.size) = some l.length) :
    (results fn tmps).run P w = .ok (.tuple #[.agg l.toArray, v, v2]) w := by
  have hrun := run_loadVar_row (P := P) w k T ty l.toArray (0, 0) _ hb hu rfl (by simpa using hi)
  have hs' : tmps[t]?.getD undef = .pointer (some ⟨k, 0, none⟩) := by rw [← hs]; simp [Array.getD_eq_getD_getElem?]
  have hv' : tmps[s]?.getD undef = v := by rw [← hv]; simp [Array.getD_eq_getD_getElem?]
  have hw' : tmps[u]?.getD undef = v2 := by rw [← hv2]; simp [Array.getD_eq_getD_getElem?]
  simp [results, h, hs', hv', hw', asAddr, hrun]
/-- a gate and a list of numbers that were handed back -/
def GEndI (w w' : World) (de qu wi ti qa bu le pb pc pj pt nw la tu tk ac dr : Int) (E : List Ev) (K : List Lk) (F R : List Int) (xs : List Int) (e : Ending) : Prop :=
  (∃ ea ec ka kc fa fc ra rc vs ia ic, e = .returned (.tuple #[.agg #[.int .i64 de, .int .i64 qu, .int .i64 wi, .int .i64 ti, .int .i64 qa, .int .i64 bu, .int .i64 le, .int .i64 pb, .int .i64 pc, .int .i64 pj, .int .i64 pt, .int .i64 nw, .int .i64 la, .slice ea E.length ec, .slice ka K.length kc, .int .i64 tu, .slice fa F.length fc, .slice ra R.length rc, .int .i64 tk, .int .i64 ac, .int .i64 dr], .slice ia xs.length ic]) ∧ GOwn w.heap.size w' (.slice ea E.length ec) (.slice ka K.length kc) (.slice fa F.length fc) (.slice ra R.length rc) vs E K F R ∧ Rws w.heap.size w' (inR (.slice ia xs.length ic) xs :: gRows (.slice ea E.length ec) (.slice ka K.length kc) (.slice fa F.length fc) (.slice ra R.length rc) vs E K F R)) ∧ Below w.heap.size w w'
section
variable {B : Nat} {w w' : World} {ev lk lf lt : Value} {vs : List Value} {E : List Ev} {K : List Lk} {F R : List Int}
/-- a new row of messages -/
theorem GOwn.newEv {ev' : Value} {E' : List Ev} (h : GOwn B w ev lk lf lt vs E K F R) (hb : Below w.heap.size w w') (ho : ROwn evS w.heap.size w' 81 ev' E') (hB : B ≤ w.heap.size) (hbd : ∀ e ∈ E', e.b.size ≤ maxLen) : GOwn B w' ev' lk lf lt vs E' K F R :=
  ⟨h.rows.tail.new (r := evR ev' E') hb ho hB, h.len, hbd⟩
theorem perm4' (a b c d x : Rw) (L : List Rw) : (x :: a :: b :: c :: d :: L).Perm (d :: a :: b :: c :: x :: L) := by
  refine ((perm4 a b c d L).cons x).trans ((List.Perm.swap d x _).trans (List.Perm.cons d ?_))
  exact ((perm4 a b c x L).symm)
/-- the letters' row goes out, a new one takes its place -/
theorem GOwn.swapLt {lt' : Value} {R' : List Int} (h : GOwn B w ev lk lf lt vs E K F R) (hn : Rws B w (inR lt' R' :: gRows ev lk lf lt vs E K F R)) : GOwn B w ev lk lf lt' vs E K F R' ∧ Rws B w (inR lt R :: gRows ev lk lf lt' vs E K F R') := by
  have h1 : Rws B w (inR lt R :: gRows ev lk lf lt' vs E K F R') := hn.perm (perm4' _ _ _ _ _ _)
  exact ⟨⟨h1.tail, h.len, h.body⟩, h1⟩
end
def sel {α : Type} (ok : Bool) (a b : α) : α := if ok then a else b
theorem sel_yes {α : Type} (a b : α) : sel true a b = a := rfl
theorem sel_no {α : Type} (a b : α) : sel false a b = b := rfl
def goneAll (E : List Ev) (ids : List Int) : List Ev := ids.foldl (fun E id => goneE id E) E
theorem goneAll_snoc (E : List Ev) (ids : List Int) (j : Nat) {x : Int} (h : j < ids.length) (hx : ids[j] = x) : goneAll E (ids.take (j + 1)) = goneE x (goneAll E (ids.take j)) := by
  unfold goneAll
  rw [List.take_succ_eq_append_getElem h, List.foldl_append, hx]
  rfl
theorem goneAll_sub : ∀ (ids : List Int) (E : List Ev), (goneAll E ids).Sublist E
  | [], E => List.Sublist.refl _
  | x :: ids, E => (goneAll_sub ids (goneE x E)).trans List.filter_sublist

set_option maxRecDepth 100000 in
set_option maxHeartbeats 8000000 in
theorem specDrain_any (w : World) (de qu wi ti qa bu le pb pc pj pt nw la : Int) (ea : Option Addr) (en ec : Nat) (ka : Option Addr) (kn kc : Nat) (tu : Int) (fa : Option Addr) (fn fc : Nat) (ra : Option Addr) (rn rc : Nat) (tk ac dr : Int) (E : List Ev) (K : List Lk) (F R : List Int) (h : GIs w.heap.size w ea en ka kn fa fn ra rn E K F R) (hs : Small en kn fn rn K) :
    Calls Try.prog 18 #[.agg #[.int .i64 de, .int .i64 qu, .int .i64 wi, .int .i64 ti, .int .i64 qa, .int .i64 bu, .int .i64 le, .int .i64 pb, .int .i64 pc, .int .i64 pj, .int .i64 pt, .int .i64 nw, .int .i64 la, .slice ea en ec, .slice ka kn kc, .int .i64 tu, .slice fa fn fc, .slice ra rn rc, .int .i64 tk, .int .i64 ac, .int .i64 dr]] w fun e w' => GEndI w w' de qu wi ti qa bu le pb pc pj pt nw la tu tk ac (sel (gokB de qu wi ti qa bu le pb pc pj pt nw la en kn tu fn rn tk ac dr E K F R) (dr + rn) dr) (sel (gokB de qu wi ti qa bu le pb pc pj pt nw la en kn tu fn rn tk ac dr E K F R) (goneAll E R) E) K F (sel (gokB de qu wi ti qa bu le pb pc pj pt nw la en kn tu fn rn tk ac dr E K F R) [] R) (sel (gokB de qu wi ti qa bu le pb pc pj pt nw la en kn tu fn rn tk ac dr E K F R) R []) e := by
  obtain ⟨W0, hW0⟩ : ∃ W, W = (w.alloc (.cells #[.int .i64 de, .int .i64 qu, .int .i64 wi, .int .i64 ti, .int .i64 qa, .int .i64 bu, .int .i64 le, .int .i64 pb, .int .i64 pc, .int .i64 pj, .int .i64 pt, .int .i64 nw, .int .i64 la, .slice ea en ec, .slice ka kn kc, .int .i64 tu, .slice fa fn fc, .slice ra rn rc, .int .i64 tk, .int .i64 ac, .int .i64 dr] 38)).alloc (.cells #[.int .i64 0, .int .i64 0, .int .i64 0, .int .i64 0, .int .i64 0, .int .i64 0, .int .i64 0, .int .i64 0, .int .i64 0, .int .i64 0, .int .i64 0, .int .i64 0, .int .i64 0, .slice none 0 0, .slice none 0 0, .int .i64 0, .slice none 0 0, .slice none 0 0, .int .i64 0, .int .i64 0, .int .i64 0] 38) := ⟨_, rfl⟩
  have hb01 := bOne w (.cells #[.int .i64 de, .int .i64 qu, .int .i64 wi, .int .i64 ti, .int .i64 qa, .int .i64 bu, .int .i64 le, .int .i64 pb, .int .i64 pc, .int .i64 pj, .int .i64 pt, .int .i64 nw, .int .i64 la, .slice ea en ec, .slice ka kn kc, .int .i64 tu, .slice fa fn fc, .slice ra rn rc, .int .i64 tk, .int .i64 ac, .int .i64 dr] 38)
  have hb02 := bOne (w.alloc (.cells #[.int .i64 de, .int .i64 qu, .int .i64 wi, .int .i64 ti, .int .i64 qa, .int .i64 bu, .int .i64 le, .int .i64 pb, .int .i64 pc, .int .i64 pj, .int .i64 pt, .int .i64 nw, .int .i64 la, .slice ea en ec, .slice ka kn kc, .int .i64 tu, .slice fa fn fc, .slice ra rn rc, .int .i64 tk, .int .i64 ac, .int .i64 dr] 38)) (.cells #[.int .i64 0, .int .i64 0, .int .i64 0, .int .i64 0, .int .i64 0, .int .i64 0, .int .i64 0, .int .i64 0, .int .i64 0, .int .i64 0, .int .i64 0, .int .i64 0, .int .i64 0, .slice none 0 0, .slice none 0 0, .int .i64 0, .slice none 0 0, .slice none 0 0, .int .i64 0, .int .i64 0, .int .i64 0] 38)
  have HA : Hid (Box W0 w.heap.size 38 [.int .i64 de, .int .i64 qu, .int .i64 wi, .int .i64 ti, .int .i64 qa, .int .i64 bu, .int .i64 le, .int .i64 pb, .int .i64 pc, .int .i64 pj, .int .i64 pt, .int .i64 nw, .int .i64 la, .slice ea en ec, .slice ka kn kc, .int .i64 tu, .slice fa fn fc, .slice ra rn rc, .int .i64 tk, .int .i64 ac, .int .i64 dr]) := Lib.hid (by rw [hW0]; exact (Box.new w [.int .i64 de, .int .i64 qu, .int .i64 wi, .int .i64 ti, .int .i64 qa, .int .i64 bu, .int .i64 le, .int .i64 pb, .int .i64 pc, .int .i64 pj, .int .i64 pt, .int .i64 nw, .int .i64 la, .slice ea en ec, .slice ka kn kc, .int .i64 tu, .slice fa fn fc, .slice ra rn rc, .int .i64 tk, .int .i64 ac, .int .i64 dr] 38).below hb02)
  have HR : Hid (Box W0 (w.heap.size + 1) 38 [.int .i64 0, .int .i64 0, .int .i64 0, .int .i64 0, .int .i64 0, .int .i64 0, .int .i64 0, .int .i64 0, .int .i64 0, .int .i64 0, .int .i64 0, .int .i64 0, .int .i64 0, .slice none 0 0, .slice none 0 0, .int .i64 0, .slice none 0 0, .slice none 0 0, .int .i64 0, .int .i64 0, .int .i64 0]) := Lib.hid (by
    rw [hW0]
    have := Box.new (w.alloc (.cells #[.int .i64 de, .int .i64 qu, .int .i64 wi, .int .i64 ti, .int .i64 qa, .int .i64 bu, .int .i64 le, .int .i64 pb, .int .i64 pc, .int .i64 pj, .int .i64 pt, .int .i64 nw, .int .i64 la, .slice ea en ec, .slice ka kn kc, .int .i64 tu, .slice fa fn fc, .slice ra rn rc, .int .i64 tk, .int .i64 ac, .int .i64 dr] 38)) [.int .i64 0, .int .i64 0, .int .i64 0, .int .i64 0, .int .i64 0, .int .i64 0, .int .i64 0, .int .i64 0, .int .i64 0, .int .i64 0, .int .i64 0, .int .i64 0, .int .i64 0, .slice none 0 0, .slice none 0 0, .int .i64 0, .slice none 0 0, .slice none 0 0, .int .i64 0, .int .i64 0, .int .i64 0] 38
    simpa using this)
  have HL : Hid (Below w.heap.size w W0) := Lib.hid (by rw [hW0]; exact hb01.trans (hb02.mono (by simp)))
  have HS0 := Lib.hid (show W0.heap.size = w.heap.size + 1 + 1 by rw [hW0]; simp)
  have HWE := Lib.hid hW0
  have HG := Lib.hid h
  have HSM := Lib.hid hs
  have HT0 := Lib.hid (show GIs W0.heap.size W0 ea en ka kn fa fn ra rn E K F R from h.here HL.out)
  clear hW0 hb01 hb02 h hs
  go_enter Try.func18, Try.ntmps18
  go_upto_region 1 with fail
  rw [← HWE.out]
  clear HWE
  obtain ⟨B1, hB1⟩ : ∃ B, B = W0.heap.size := ⟨_, rfl⟩
  have HB1 := Lib.hid (show w.heap.size + 1 < B1 by rw [hB1, HS0.out]; omega)
  go_wp2_with (first | (refine wpList_load_box rfl _ 38 rfl rfl HA.out _ Try.underlying38 sizeGate ?_) | fail)
  refine (specGCopy_any _ de qu wi ti qa bu le pb pc pj pt nw la ea en ec ka kn kc tu fa fn fc ra rn rc tk ac dr E K F R HT0.out HSM.out).mono ?_
  rintro e w1 ⟨⟨ea1, ec1, ka1, kc1, fa1, fc1, ra1, rc1, vs, rfl, ho⟩, hb⟩
  rw [← hB1] at ho
  obtain ⟨lE, hlE⟩ : ∃ l, l = E.length := ⟨_, rfl⟩
  obtain ⟨lK, hlK⟩ : ∃ l, l = K.length := ⟨_, rfl⟩
  obtain ⟨lF, hlF⟩ : ∃ l, l = F.length := ⟨_, rfl⟩
  obtain ⟨lR, hlR⟩ : ∃ l, l = R.length := ⟨_, rfl⟩
  rw [← hlE, ← hlK, ← hlF, ← hlR] at ho ⊢
  have HlE := Lib.hid hlE
  have HlK := Lib.hid hlK
  have HlF := Lib.hid hlF
  have HlR := Lib.hid hlR
  have HO := Lib.hid ho
  have HBW := Lib.hid (show B1 ≤ w1.heap.size by rw [hB1]; exact hb.size)
  replace HA := Lib.hid (HA.out.below hb)
  replace HR := Lib.hid (HR.out.below hb)
  replace HL := Lib.hid (low_after HL.out hb)
  clear hb ho hlE hlK hlF hlR hB1 HS0 HT0
  obtain ⟨k3, hk3⟩ : ∃ k, k = w1.heap.size := ⟨_, rfl⟩
  go_upto_region 2 with (first | (refine wpList_store_box rfl _ _ 38 rfl rfl [.int .i64 de, .int .i64 qu, .int .i64 wi, .int .i64 ti, .int .i64 qa, .int .i64 bu, .int .i64 le, .int .i64 pb, .int .i64 pc, .int .i64 pj, .int .i64 pt, .int .i64 nw, .int .i64 la, .slice ea1 lE ec1, .slice ka1 lK kc1, .int .i64 tu, .slice fa1 lF fc1, .slice ra1 lR rc1, .int .i64 tk, .int .i64 ac, .int .i64 dr] rfl (Box.new _ [.int .i64 0, .int .i64 0, .int .i64 0, .int .i64 0, .int .i64 0, .int .i64 0, .int .i64 0, .int .i64 0, .int .i64 0, .int .i64 0, .int .i64 0, .int .i64 0, .int .i64 0, .slice none 0 0, .slice none 0 0, .int .i64 0, .slice none 0 0, .slice none 0 0, .int .i64 0, .int .i64 0, .int .i64 0] 38) sizeGate rfl rfl ?_; intro V0 hXb hgV hlV; have HX := Lib.hid hXb; have HBV := Lib.hid (hlV w1.heap.size w1 (Nat.le_refl _) (bOne w1 _)); clear hXb hgV hlV) | fail)
  simp only [Act.put]
  rw [← hk3] at HX ⊢
  have HK3 := Lib.hid (show B1 ≤ k3 by rw [hk3]; exact HBW.out)
  clear hk3
  replace HA := Lib.hid (HA.out.below HBV.out)
  replace HR := Lib.hid (HR.out.below HBV.out)
  replace HL := Lib.hid (low_after HL.out HBV.out)
  replace HO := Lib.hid (HO.out.below HBV.out)
  replace HBW := Lib.hid (Nat.le_trans HBW.out HBV.out.size)
  clear HBV
  have c0 := HA.out.cell 0 _ rfl
  go_wp2_with (first | (refine wpList_load_box rfl _ 38 rfl rfl HA.out _ Try.underlying38 sizeGate ?_) | fail)
  refine (specGateOk_any _ de qu wi ti qa bu le pb pc pj pt nw la ea en ec ka kn kc tu fa fn fc ra rn rc tk ac dr E K F R (HG.out.here HL.out)).mono ?_
  rintro e w2 ⟨⟨x, rfl, hx⟩, hb⟩
  have HGB := Lib.hid (gokB_of hx)
  have HXP := Lib.hid hx
  clear c0 hx
  replace HA := Lib.hid (HA.out.below hb)
  replace HR := Lib.hid (HR.out.below hb)
  replace HX := Lib.hid (HX.out.below hb)
  replace HO := Lib.hid (HO.out.below hb)
  replace HL := Lib.hid (low_after HL.out hb)
  replace HBW := Lib.hid (Nat.le_trans HBW.out hb.size)
  clear hb
  cases x with
  | false =>
    have hb := bOne w2 (.cells #[] 3)
    have HRb := Lib.hid (HR.out.below hb)
    have HW := Lib.hid (HO.out.rows.new (r := inR (.slice (some ⟨w2.heap.size, 0, none⟩) 0 0) []) hb (Lnk.ilit w2) HBW.out)
    have HOb := Lib.hid (HO.out.below hb)
    have HLb := Lib.hid (low_after HL.out hb)
    clear hb
    go_wp2_with (first | (refine wpList_load_box rfl _ 38 rfl rfl HX.out _ Try.underlying38 sizeGate ?_) | (refine wpList_store_box rfl _ _ 38 rfl rfl [.int .i64 de, .int .i64 qu, .int .i64 wi, .int .i64 ti, .int .i64 qa, .int .i64 bu, .int .i64 le, .int .i64 pb, .int .i64 pc, .int .i64 pj, .int .i64 pt, .int .i64 nw, .int .i64 la, .slice ea1 lE ec1, .slice ka1 lK kc1, .int .i64 tu, .slice fa1 lF fc1, .slice ra1 lR rc1, .int .i64 tk, .int .i64 ac, .int .i64 dr] rfl HRb.out sizeGate rfl rfl ?_; intro V hXb hgV hlV) | fail)
    rw [HGB.out, sel_no, sel_no, sel_no, sel_no]
    exact bodyPost_ret (v := .tuple #[.agg #[.int .i64 de, .int .i64 qu, .int .i64 wi, .int .i64 ti, .int .i64 qa, .int .i64 bu, .int .i64 le, .int .i64 pb, .int .i64 pc, .int .i64 pj, .int .i64 pt, .int .i64 nw, .int .i64 la, .slice ea1 lE ec1, .slice ka1 lK kc1, .int .i64 tu, .slice fa1 lF fc1, .slice ra1 lR rc1, .int .i64 tk, .int .i64 ac, .int .i64 dr], .slice (some ⟨w2.heap.size, 0, none⟩) 0 0]) (results_box2 _ Try.results18 rfl rfl hXb _ Try.underlying38 sizeGate) rfl ⟨⟨ea1, ec1, ka1, kc1, fa1, fc1, ra1, rc1, vs, some ⟨w2.heap.size, 0, none⟩, 0, by rw [← HlE.out, ← HlK.out, ← HlF.out, ← HlR.out]; rfl, by rw [← HlE.out, ← HlK.out, ← HlF.out, ← HlR.out]; exact (HOb.out.low hgV (by have := HB1.out; omega)).base (by have := HB1.out; omega), by rw [← HlE.out, ← HlK.out, ← HlF.out, ← HlR.out]; exact (HW.out.low hgV (by have := HB1.out; omega)).base (by have := HB1.out; omega)⟩, hlV w.heap.size w (by omega) HLb.out⟩
  | true =>
  have HP := Lib.hid (HXP.out.1 rfl)
  clear HXP
  have hrn : rn ≤ 20 := by have h1 := HP.out.2.2.2.2.2.2.1.1; have h2 := HP.out.1; unfold CfgOk at h2; omega
  have hdr : 0 ≤ dr ∧ dr ≤ 9999 := HP.out.2.2.2.2.2.2.2.2.2.1
  have HEN := Lib.hid (show E.length ≤ 60 by have := HP.out.2.2.2.2.1.1; have := HG.out.ev.row.hlen; omega)
  have HRN := Lib.hid HG.out.lt.hlen
  go_upto_region 5 with fail
  go_loopw [5] (fun i wr => ∃ (j mE : Nat) (eaj : Option Addr) (ecj : Nat), j ≤ rn ∧ i = .int .i64 j ∧ Hid (mE = (goneAll E (R.take j)).length) ∧ Hid (Below w.heap.size w wr) ∧ Hid (Box wr w.heap.size 38 [.int .i64 de, .int .i64 qu, .int .i64 wi, .int .i64 ti, .int .i64 qa, .int .i64 bu, .int .i64 le, .int .i64 pb, .int .i64 pc, .int .i64 pj, .int .i64 pt, .int .i64 nw, .int .i64 la, .slice ea en ec, .slice ka kn kc, .int .i64 tu, .slice fa fn fc, .slice ra rn rc, .int .i64 tk, .int .i64 ac, .int .i64 dr]) ∧ Hid (Box wr (w.heap.size + 1) 38 [.int .i64 0, .int .i64 0, .int .i64 0, .int .i64 0, .int .i64 0, .int .i64 0, .int .i64 0, .int .i64 0, .int .i64 0, .int .i64 0, .int .i64 0, .int .i64 0, .int .i64 0, .slice none 0 0, .slice none 0 0, .int .i64 0, .slice none 0 0, .slice none 0 0, .int .i64 0, .int .i64 0, .int .i64 0]) ∧ Hid (Box wr k3 38 [.int .i64 de, .int .i64 qu, .int .i64 wi, .int .i64 ti, .int .i64 qa, .int .i64 bu, .int .i64 le, .int .i64 pb, .int .i64 pc, .int .i64 pj, .int .i64 pt, .int .i64 nw, .int .i64 la, .slice eaj mE ecj, .slice ka1 lK kc1, .int .i64 tu, .slice fa1 lF fc1, .slice ra1 lR rc1, .int .i64 tk, .int .i64 ac, .int .i64 dr]) ∧ Hid (GOwn B1 wr (.slice eaj mE ecj) (.slice ka1 lK kc1) (.slice fa1 lF fc1) (.slice ra1 lR rc1) vs (goneAll E (R.take j)) K F R) ∧ Hid (B1 ≤ wr.heap.size)) (fun i _ => rn - (intOf i).toNat)
  case atStart => exact ⟨0, lE, ea1, ec1, by omega, rfl, HlE, HL, HA, HR, HX, HO, HBW⟩
  case round =>
    obtain ⟨j, mE, eaj, ecj, hj, rfl, HME, HL, HA, HR, HX, HO, HBW⟩ := hrel
    have c17 := HA.out.cell 17 _ rfl
    by_cases hlt : (j : Int) < (rn : Int)
    · have hjl : j < R.length := by have := HRN.out; omega
      obtain ⟨ib, io, x, rfl, hib, hx, hc⟩ := iis_at (HG.out.lt.below HL.out) j hjl
      have HSN := Lib.hid (goneAll_snoc E R j hjl hx)
      obtain ⟨EJ, hEJ⟩ : ∃ X, X = goneAll E (R.take j) := ⟨_, rfl⟩
      rw [← hEJ] at HO HME HSN
      have HMB := Lib.hid (show mE ≤ 1048576 by have h1 := (goneAll_sub (R.take j) E).length_le; rw [← hEJ, ← HME.out] at h1; have := HEN.out; omega)
      have HIB := Lib.hid hib
      clear hEJ hx hib
      go_upto_region 7 with fail
      have HQ := Lib.hid (below_drew' (Below.refl wr.heap.size wr))
      refine wp_region_held_drew (S := fun w' => (Box w' w.heap.size 38 [.int .i64 de, .int .i64 qu, .int .i64 wi, .int .i64 ti, .int .i64 qa, .int .i64 bu, .int .i64 le, .int .i64 pb, .int .i64 pc, .int .i64 pj, .int .i64 pt, .int .i64 nw, .int .i64 la, .slice ea en ec, .slice ka kn kc, .int .i64 tu, .slice fa fn fc, .slice (some ⟨ib, io, none⟩) rn rc, .int .i64 tk, .int .i64 ac, .int .i64 dr] ∧ w'.cell? ⟨ib, io + j, none⟩ = some (.int .i64 x))) (by kernel_rfl) ⟨HA.out.below HQ.out, (HQ.out.cell (p := ⟨ib, io + j, none⟩) (World.block_lt_of_cell? _ _ hc)).trans hc⟩ (fun hHeld => ?_)
      obtain ⟨wd, hwd⟩ : ∃ x, x = wr.drew := ⟨_, rfl⟩
      replace HO := Lib.hid (HO.out.below HQ.out)
      replace HR := Lib.hid (HR.out.below HQ.out)
      replace HX := Lib.hid (HX.out.below HQ.out)
      replace HL := Lib.hid (low_after HL.out HQ.out)
      replace HBW := Lib.hid (Nat.le_trans HBW.out HQ.out.size)
      rw [← hwd] at HO HR HX HL HBW hHeld ⊢
      clear hc HA HQ c17 hwd
      refine wpAnyH_take (i := 1) (oi := { dst := some _, op := _, type := _, pos := _, after := _, guard := _ }) (v := ?_) rfl (by kernel_rfl) (by kernel_rfl) (by kernel_rfl) (fun _ _ _ h => h) ?_ (by with_reducible assumption) ?_
      rotate_left 1
      focus (refine Or.inl ⟨by rfl, ?_⟩; intro wq hSw; go_simp; try with_reducible rfl)
      try simp only [Act.put, List.setIfInBounds_toArray, List.set_cons_zero, List.set_cons_succ]
      refine wpAnyH_take (i := 2) (oi := { dst := some _, op := _, type := _, pos := _, after := _, guard := _ }) (v := ?_) rfl (by kernel_rfl) (by kernel_rfl) (by kernel_rfl) (fun _ _ _ h => h) ?_ (by with_reducible assumption) ?_
      rotate_left 1
      focus (refine Or.inl ⟨by rfl, ?_⟩; intro wq hSw; have q0 := hSw.1.cell 17 _ rfl; go_simp; try with_reducible rfl)
      try simp only [Act.put, List.setIfInBounds_toArray, List.set_cons_zero, List.set_cons_succ]
      refine wpAnyH_take (i := 3) (oi := { dst := some _, op := _, type := _, pos := _, after := _, guard := _ }) (v := ?_) rfl (by kernel_rfl) (by kernel_rfl) (by kernel_rfl) (fun _ _ _ h => h) ?_ (by with_reducible assumption) ?_
      rotate_left 1
      focus (refine Or.inl ⟨by rfl, ?_⟩; intro wq hSw; go_simp; try with_reducible rfl)
      try simp only [Act.put, List.setIfInBounds_toArray, List.set_cons_zero, List.set_cons_succ]
      refine wpAnyH_take (i := 4) (oi := { dst := some _, op := _, type := _, pos := _, after := _, guard := _ }) (v := ?_) rfl (by kernel_rfl) (by kernel_rfl) (by kernel_rfl) (fun _ _ _ h => h) ?_ (by with_reducible assumption) ?_
      rotate_left 1
      focus (refine Or.inl ⟨by rfl, ?_⟩; intro wq hSw; go_simp; try with_reducible rfl)
      try simp only [Act.put, List.setIfInBounds_toArray, List.set_cons_zero, List.set_cons_succ]
      refine wpAnyH_take (i := 5) (oi := { dst := some _, op := _, type := _, pos := _, after := _, guard := _ }) (v := ?_) rfl (by kernel_rfl) (by kernel_rfl) (by kernel_rfl) (fun _ _ _ h => h) ?_ (by with_reducible assumption) ?_
      rotate_left 1
      focus (refine Or.inl ⟨by rfl, ?_⟩; intro wq hSw; have q1 := hSw.2; go_simp; try with_reducible rfl)
      try simp only [Act.put, List.setIfInBounds_toArray, List.set_cons_zero, List.set_cons_succ]
      refine wpAnyH_ready (rs := [0]) (by kernel_rfl) (by simp) ?_
      refine AllReadyH.cons rfl (fun KA hKA => ?_) AllReadyH.nil
      refine step_load_box rfl _ 38 rfl rfl HX.out _ Try.underlying38 sizeGate ?_
      refine hKA.out _ _ (hHeld) (fun hHeld => ?_)
      clear hKA
      try simp only [Act.put, List.setIfInBounds_toArray, List.set_cons_zero, List.set_cons_succ]
      refine wpAnyH_ready (rs := [6]) (by kernel_rfl) (by simp) ?_
      refine AllReadyH.cons rfl (fun KA hKA => ?_) AllReadyH.nil
      go_simp
      refine (gone_any _ de qu wi ti qa bu le pb pc pj pt nw la eaj mE ecj ka1 lK kc1 tu fa1 lF fc1 ra1 lR rc1 tk ac dr EJ x (by have h1 := HO.out.is.ev; rw [HME.out] at h1 ⊢; exact h1) (by have := HMB.out; omega)).mono ?_
      rintro e v1 ⟨⟨ea2, ec2, rfl, hoe⟩, hb⟩
      have HS1 := Lib.hid (show Box v1 w.heap.size 38 [.int .i64 de, .int .i64 qu, .int .i64 wi, .int .i64 ti, .int .i64 qa, .int .i64 bu, .int .i64 le, .int .i64 pb, .int .i64 pc, .int .i64 pj, .int .i64 pt, .int .i64 nw, .int .i64 la, .slice ea en ec, .slice ka kn kc, .int .i64 tu, .slice fa fn fc, .slice (some ⟨ib, io, none⟩) rn rc, .int .i64 tk, .int .i64 ac, .int .i64 dr] ∧ v1.cell? ⟨ib, io + j, none⟩ = some (.int .i64 x) from ⟨hHeld.1.below hb, (hb.cell (p := ⟨ib, io + j, none⟩) (World.block_lt_of_cell? _ _ hHeld.2)).trans hHeld.2⟩)
      have HOn := Lib.hid (HO.out.newEv hb hoe HBW.out (fun e he => HO.out.body e (List.filter_sublist.mem he)))
      replace HR := Lib.hid (HR.out.below hb)
      replace HX := Lib.hid (HX.out.below hb)
      replace HL := Lib.hid (low_after HL.out hb)
      replace HBW := Lib.hid (Nat.le_trans HBW.out hb.size)
      clear hb hHeld hoe HO
      dsimp only
      refine hKA.out _ _ (HS1.out) (fun hHeld => ?_)
      clear hKA
      try simp only [Act.put, List.setIfInBounds_toArray, List.set_cons_zero, List.set_cons_succ]
      refine wpAnyH_ready (rs := [7]) (by kernel_rfl) (by simp) ?_
      refine AllReadyH.cons rfl (fun KA hKA => ?_) AllReadyH.nil
      refine step_store_box rfl _ _ 38 rfl rfl [.int .i64 de, .int .i64 qu, .int .i64 wi, .int .i64 ti, .int .i64 qa, .int .i64 bu, .int .i64 le, .int .i64 pb, .int .i64 pc, .int .i64 pj, .int .i64 pt, .int .i64 nw, .int .i64 la, .slice ea2 (goneE x EJ).length ec2, .slice ka1 lK kc1, .int .i64 tu, .slice fa1 lF fc1, .slice ra1 lR rc1, .int .i64 tk, .int .i64 ac, .int .i64 dr] rfl HX.out sizeGate rfl rfl ?_
      intro v2 hXb hgV hlV
      have HS2 := Lib.hid (show Box v2 w.heap.size 38 [.int .i64 de, .int .i64 qu, .int .i64 wi, .int .i64 ti, .int .i64 qa, .int .i64 bu, .int .i64 le, .int .i64 pb, .int .i64 pc, .int .i64 pj, .int .i64 pt, .int .i64 nw, .int .i64 la, .slice ea en ec, .slice ka kn kc, .int .i64 tu, .slice fa fn fc, .slice (some ⟨ib, io, none⟩) rn rc, .int .i64 tk, .int .i64 ac, .int .i64 dr] ∧ v2.cell? ⟨ib, io + j, none⟩ = some (.int .i64 x) from ⟨HS1.out.1.grown hgV (by have := HK3.out; have := HB1.out; simp; omega), hgV.cell (a := ⟨ib, io + j, none⟩) HS1.out.2 (by have := HIB.out; have := HK3.out; have := HB1.out; simp; omega)⟩)
      replace HO := Lib.hid (HOn.out.offbox HX.out hgV)
      replace HX := Lib.hid hXb
      replace HR := Lib.hid (HR.out.grown hgV (by have := HK3.out; have := HB1.out; simp; omega))
      replace HBW := Lib.hid (Nat.le_trans HBW.out hgV.size)
      replace HL := Lib.hid (hlV w.heap.size w (by have := HK3.out; have := HB1.out; omega) HL.out)
      clear hXb hgV hlV hHeld HOn
      refine hKA.out _ _ (HS2.out) (fun hHeld => ?_)
      clear hKA
      try simp only [Act.put, List.setIfInBounds_toArray, List.set_cons_zero, List.set_cons_succ]
      refine wpAnyH_done (by kernel_rfl) ?_ _
      go_wp2_with fail
      go_roundw
      case rel => exact ⟨j + 1, _, ea2, ec2, by omega, by go_num, Lib.hid (by rw [HSN.out]), HL, Lib.hid HS2.out.1, HR, HX, Lib.hid (by rw [HSN.out]; exact HO.out), HBW⟩
      case measure => simp [intOf]; omega
    · have hjn : j = R.length := by have := HRN.out; omega
      have HTK := Lib.hid (show R.take j = R by rw [hjn, List.take_length])
      rw [HTK.out] at HO HME
      have o20 := HX.out.cell 20 _ rfl
      have f20 := HX.out.frozen 20
      have hwr : IntKind.i64.wrap (dr + (rn : Int)) = dr + (rn : Int) := IntWalk.i64_in _ (by omega)
      go_upto_region 9 with fail
      obtain ⟨V8, hV⟩ : ∃ V, V = wr.setCell ⟨k3, 20, none⟩ (.int .i64 (dr + (rn : Int))) := ⟨_, rfl⟩
      rw [← hV]
      have hg : wr.grownBy V8 (some k3) := by rw [hV]; exact store_grown [.int .i64 (dr + (rn : Int))] 20 _
      have HX8 := Lib.hid (show Box V8 k3 38 [.int .i64 de, .int .i64 qu, .int .i64 wi, .int .i64 ti, .int .i64 qa, .int .i64 bu, .int .i64 le, .int .i64 pb, .int .i64 pc, .int .i64 pj, .int .i64 pt, .int .i64 nw, .int .i64 la, .slice eaj mE ecj, .slice ka1 lK kc1, .int .i64 tu, .slice fa1 lF fc1, .slice ra1 lR rc1, .int .i64 tk, .int .i64 ac, .int .i64 (dr + (rn : Int))] by rw [hV]; exact Box.store [.int .i64 (dr + (rn : Int))] 20 _ _ HX.out)
      have HL8 := Lib.hid (show Below w.heap.size w V8 by rw [hV]; exact store_below (by have := HK3.out; have := HB1.out; omega) [.int .i64 (dr + (rn : Int))] 20 _ _ HL.out)
      have HR8 := Lib.hid (HR.out.grown hg (by have := HK3.out; have := HB1.out; simp; omega))
      have HO8 := Lib.hid (HO.out.offbox HX.out hg)
      have HBW8 := Lib.hid (Nat.le_trans HBW.out hg.size)
      clear hV hg o20 f20 c17 HX HL HR HO HBW HA
      have hb := bOne V8 (.cells #[] 3)
      have o17 := HX8.out.cell 17 _ rfl
      have p17 := (HX8.out.below hb).cell 17 _ rfl
      have q17 := (HX8.out.below hb).frozen 17
      have HW := Lib.hid (HO8.out.rows.new (r := inR (.slice (some ⟨V8.heap.size, 0, none⟩) 0 0) []) hb (Lnk.ilit V8) HBW8.out)
      go_upto_region 11 with fail
      clear o17 p17 q17
      obtain ⟨kz, hkz⟩ : ∃ k, k = V8.heap.size := ⟨_, rfl⟩
      rw [← hkz] at HW ⊢
      obtain ⟨V9, hV⟩ : ∃ V, V = (V8.alloc (.cells #[] 3)).setCell ⟨k3, 17, none⟩ (.slice (some ⟨kz, 0, none⟩) 0 0) := ⟨_, rfl⟩
      rw [← hV]
      have hg : (V8.alloc (.cells #[] 3)).grownBy V9 (some k3) := by rw [hV]; exact store_grown [.slice (some ⟨kz, 0, none⟩) 0 0] 17 _
      have HX9 := Lib.hid (show Box V9 k3 38 [.int .i64 de, .int .i64 qu, .int .i64 wi, .int .i64 ti, .int .i64 qa, .int .i64 bu, .int .i64 le, .int .i64 pb, .int .i64 pc, .int .i64 pj, .int .i64 pt, .int .i64 nw, .int .i64 la, .slice eaj mE ecj, .slice ka1 lK kc1, .int .i64 tu, .slice fa1 lF fc1, .slice (some ⟨kz, 0, none⟩) 0 0, .int .i64 tk, .int .i64 ac, .int .i64 (dr + (rn : Int))] by rw [hV]; exact Box.store [.slice (some ⟨kz, 0, none⟩) 0 0] 17 _ _ (HX8.out.below hb))
      have HL9 := Lib.hid (show Below w.heap.size w V9 by rw [hV]; exact store_below (by have := HK3.out; have := HB1.out; omega) [.slice (some ⟨kz, 0, none⟩) 0 0] 17 _ _ (low_after HL8.out hb))
      have HR9 := Lib.hid ((HR8.out.below hb).grown hg (by have := HK3.out; have := HB1.out; simp; omega))
      have HO9 := Lib.hid ((HO8.out.below hb).offbox (HX8.out.below hb) hg)
      have HW9 := Lib.hid (HW.out.offbox (HX8.out.below hb) gRowsI_ty hg)
      have HSW := Lib.hid (HO9.out.swapLt HW9.out)
      clear hV hg hb HX8 HL8 HR8 HO8 HW HO9 HW9 hkz hlt hwr HBW8
      go_wp2_with (first | (refine wpList_load_box rfl _ 38 rfl rfl HX9.out _ Try.underlying38 sizeGate ?_) | (refine wpList_store_box rfl _ _ 38 rfl rfl [.int .i64 de, .int .i64 qu, .int .i64 wi, .int .i64 ti, .int .i64 qa, .int .i64 bu, .int .i64 le, .int .i64 pb, .int .i64 pc, .int .i64 pj, .int .i64 pt, .int .i64 nw, .int .i64 la, .slice eaj mE ecj, .slice ka1 lK kc1, .int .i64 tu, .slice fa1 lF fc1, .slice (some ⟨kz, 0, none⟩) 0 0, .int .i64 tk, .int .i64 ac, .int .i64 (dr + (rn : Int))] rfl HR9.out sizeGate rfl rfl ?_; intro V hXb hgV hlV) | fail)
      rw [HGB.out, sel_yes, sel_yes, sel_yes, sel_yes]
      exact bodyPost_ret (v := .tuple #[.agg #[.int .i64 de, .int .i64 qu, .int .i64 wi, .int .i64 ti, .int .i64 qa, .int .i64 bu, .int .i64 le, .int .i64 pb, .int .i64 pc, .int .i64 pj, .int .i64 pt, .int .i64 nw, .int .i64 la, .slice eaj mE ecj, .slice ka1 lK kc1, .int .i64 tu, .slice fa1 lF fc1, .slice (some ⟨kz, 0, none⟩) 0 0, .int .i64 tk, .int .i64 ac, .int .i64 (dr + (rn : Int))], .slice ra1 lR rc1]) (results_box2 _ Try.results18 rfl rfl hXb _ Try.underlying38 sizeGate) rfl ⟨⟨eaj, ecj, ka1, kc1, fa1, fc1, some ⟨kz, 0, none⟩, 0, vs, ra1, rc1, by rw [← HME.out, ← HlK.out, ← HlF.out, ← HlR.out]; rfl, by rw [← HME.out, ← HlK.out, ← HlF.out]; exact (HSW.out.1.low hgV (by have := HB1.out; omega)).base (by have := HB1.out; omega), by rw [← HME.out, ← HlK.out, ← HlF.out, ← HlR.out]; exact (HSW.out.2.low hgV (by have := HB1.out; omega)).base (by have := HB1.out; omega)⟩, hlV w.heap.size w (by omega) HL9.out⟩

end Go.Proofs.Ytlcllbdalabciaa.Gat
