/-
  StepLate, StepOld, StepDead of the program.
-/
import Derived.Test.YtlcllbdalabciaaGiKm
import Derived.Test.YtlcllbdalabciaaGiMm
import Derived.Test.YtlcllbdalabciaaGiNm
namespace Go.Proofs.Ytlcllbdalabciaa.Gat
open Go.RowKit
open Lnk (bOne bAfter IOwn IIs YOwn YIs below_keep below_drew' bcell low_after low_alloc grown_of_below)
set_option linter.unusedVariables false
set_option linter.unusedSimpArgs false

theorem gok_evs {de qu wi ti qa bu le pb pc pj pt nw la : Int} {en kn : Nat} {tu : Int} {fn rn : Nat} {tk ac dr : Int} {E : List Ev} {K : List Lk} {F R : List Int} (h : gokB de qu wi ti qa bu le pb pc pj pt nw la en kn tu fn rn tk ac dr E K F R = true) : ∀ k, (hk : k < E.length) → Evt.Sml E[k].a E[k].t ∧ 1 ≤ E[k].d ∧ E[k].d ≤ de := by
  intro k hk
  have hgood := ((gokB_true h).2.2.2.2.1.2 k hk).1
  have h1 := hgood.1
  have h2 := hgood.2.2.2.1
  unfold Evt.EOk at h1
  unfold Evt.Sml
  omega
theorem gok_le {de qu wi ti qa bu le pb pc pj pt nw la : Int} {en kn : Nat} {tu : Int} {fn rn : Nat} {tk ac dr : Int} {E : List Ev} {K : List Lk} {F R : List Int} (h : gokB de qu wi ti qa bu le pb pc pj pt nw la en kn tu fn rn tk ac dr E K F R = true) : le ≤ 1000000 := by
  have h1 := gokB_true h
  have h2 := h1.1
  unfold CfgOk at h2
  omega
theorem sel_same {b : Bool} {α : Type} {x : α} : sel b x x = x := by
  cases b <;> rfl
set_option maxRecDepth 100000 in
set_option maxHeartbeats 8000000 in
theorem implStLate_any (w : World) (de qu wi ti qa bu le pb pc pj pt nw la : Int) (ea : Option Addr) (en ec : Nat) (ka : Option Addr) (kn kc : Nat) (tu : Int) (fa : Option Addr) (fn fc : Nat) (ra : Option Addr) (rn rc : Nat) (tk ac dr : Int) (E : List Ev) (K : List Lk) (F R : List Int) (hE : ∀ e ∈ E, (Lit.int .i64 e.i).wf = true) (hR : ∀ x ∈ R, (Lit.int .i64 x).wf = true) (h : GIs w.heap.size w ea en ka kn fa fn ra rn E K F R) (hs : Small en kn fn rn K) :
    Calls Try.prog 24 #[.agg #[.int .i64 de, .int .i64 qu, .int .i64 wi, .int .i64 ti, .int .i64 qa, .int .i64 bu, .int .i64 le, .int .i64 pb, .int .i64 pc, .int .i64 pj, .int .i64 pt, .int .i64 nw, .int .i64 la, .slice ea en ec, .slice ka kn kc, .int .i64 tu, .slice fa fn fc, .slice ra rn rc, .int .i64 tk, .int .i64 ac, .int .i64 dr]] w fun e w' => GEnd w w' de qu wi ti qa bu le pb pc pj pt nw la tu tk ac dr (sel (gokB de qu wi ti qa bu le pb pc pj pt nw la en kn tu fn rn tk ac dr E K F R) (lateEs nw K E K.length) E) (sel (gokB de qu wi ti qa bu le pb pc pj pt nw la en kn tu fn rn tk ac dr E K F R) (K.map (lateK nw)) K) F R e := by
  obtain rfl : E.length = en := h.ev.row.hlen
  obtain rfl : K.length = kn := h.lk.hlen
  obtain rfl : F.length = fn := h.lf.hlen
  obtain rfl : R.length = rn := h.lt.hlen
  obtain ⟨W0, hW0⟩ : ∃ W, W = (w.alloc (.cells #[.int .i64 de, .int .i64 qu, .int .i64 wi, .int .i64 ti, .int .i64 qa, .int .i64 bu, .int .i64 le, .int .i64 pb, .int .i64 pc, .int .i64 pj, .int .i64 pt, .int .i64 nw, .int .i64 la, .slice ea E.length ec, .slice ka K.length kc, .int .i64 tu, .slice fa F.length fc, .slice ra R.length rc, .int .i64 tk, .int .i64 ac, .int .i64 dr] 38)).alloc (.cells #[.int .i64 0, .int .i64 0, .int .i64 0, .int .i64 0, .int .i64 0, .int .i64 0, .int .i64 0, .int .i64 0, .int .i64 0, .int .i64 0, .int .i64 0, .int .i64 0, .int .i64 0, .slice none 0 0, .slice none 0 0, .int .i64 0, .slice none 0 0, .slice none 0 0, .int .i64 0, .int .i64 0, .int .i64 0] 38) := ⟨_, rfl⟩
  have hb01 := bOne w (.cells #[.int .i64 de, .int .i64 qu, .int .i64 wi, .int .i64 ti, .int .i64 qa, .int .i64 bu, .int .i64 le, .int .i64 pb, .int .i64 pc, .int .i64 pj, .int .i64 pt, .int .i64 nw, .int .i64 la, .slice ea E.length ec, .slice ka K.length kc, .int .i64 tu, .slice fa F.length fc, .slice ra R.length rc, .int .i64 tk, .int .i64 ac, .int .i64 dr] 38)
  have hb02 := bOne (w.alloc (.cells #[.int .i64 de, .int .i64 qu, .int .i64 wi, .int .i64 ti, .int .i64 qa, .int .i64 bu, .int .i64 le, .int .i64 pb, .int .i64 pc, .int .i64 pj, .int .i64 pt, .int .i64 nw, .int .i64 la, .slice ea E.length ec, .slice ka K.length kc, .int .i64 tu, .slice fa F.length fc, .slice ra R.length rc, .int .i64 tk, .int .i64 ac, .int .i64 dr] 38)) (.cells #[.int .i64 0, .int .i64 0, .int .i64 0, .int .i64 0, .int .i64 0, .int .i64 0, .int .i64 0, .int .i64 0, .int .i64 0, .int .i64 0, .int .i64 0, .int .i64 0, .int .i64 0, .slice none 0 0, .slice none 0 0, .int .i64 0, .slice none 0 0, .slice none 0 0, .int .i64 0, .int .i64 0, .int .i64 0] 38)
  have HA : Hid (Box W0 w.heap.size 38 [.int .i64 de, .int .i64 qu, .int .i64 wi, .int .i64 ti, .int .i64 qa, .int .i64 bu, .int .i64 le, .int .i64 pb, .int .i64 pc, .int .i64 pj, .int .i64 pt, .int .i64 nw, .int .i64 la, .slice ea E.length ec, .slice ka K.length kc, .int .i64 tu, .slice fa F.length fc, .slice ra R.length rc, .int .i64 tk, .int .i64 ac, .int .i64 dr]) := Lib.hid (by rw [hW0]; exact (Box.new w [.int .i64 de, .int .i64 qu, .int .i64 wi, .int .i64 ti, .int .i64 qa, .int .i64 bu, .int .i64 le, .int .i64 pb, .int .i64 pc, .int .i64 pj, .int .i64 pt, .int .i64 nw, .int .i64 la, .slice ea E.length ec, .slice ka K.length kc, .int .i64 tu, .slice fa F.length fc, .slice ra R.length rc, .int .i64 tk, .int .i64 ac, .int .i64 dr] 38).below hb02)
  have HR : Hid (Box W0 (w.heap.size + 1) 38 [.int .i64 0, .int .i64 0, .int .i64 0, .int .i64 0, .int .i64 0, .int .i64 0, .int .i64 0, .int .i64 0, .int .i64 0, .int .i64 0, .int .i64 0, .int .i64 0, .int .i64 0, .slice none 0 0, .slice none 0 0, .int .i64 0, .slice none 0 0, .slice none 0 0, .int .i64 0, .int .i64 0, .int .i64 0]) := Lib.hid (by
    rw [hW0]
    have := Box.new (w.alloc (.cells #[.int .i64 de, .int .i64 qu, .int .i64 wi, .int .i64 ti, .int .i64 qa, .int .i64 bu, .int .i64 le, .int .i64 pb, .int .i64 pc, .int .i64 pj, .int .i64 pt, .int .i64 nw, .int .i64 la, .slice ea E.length ec, .slice ka K.length kc, .int .i64 tu, .slice fa F.length fc, .slice ra R.length rc, .int .i64 tk, .int .i64 ac, .int .i64 dr] 38)) [.int .i64 0, .int .i64 0, .int .i64 0, .int .i64 0, .int .i64 0, .int .i64 0, .int .i64 0, .int .i64 0, .int .i64 0, .int .i64 0, .int .i64 0, .int .i64 0, .int .i64 0, .slice none 0 0, .slice none 0 0, .int .i64 0, .slice none 0 0, .slice none 0 0, .int .i64 0, .int .i64 0, .int .i64 0] 38
    simpa using this)
  have HL : Hid (Below w.heap.size w W0) := Lib.hid (by rw [hW0]; exact hb01.trans (hb02.mono (by simp)))
  have HSZ := Lib.hid (show w.heap.size + 2 ≤ W0.heap.size by rw [hW0]; simp)
  have HWE := Lib.hid hW0
  have HG := Lib.hid h
  have HSM := Lib.hid hs
  have HE := Lib.hid hE
  have HRW := Lib.hid hR
  have HST := Lib.hid (fun (w : World) (h : GIs w.heap.size w ea E.length ka K.length fa F.length ra R.length E K F R) => afterStep_any 58 (lateEs nw K E K.length) (K.map (lateK nw)) R w de qu wi ti qa bu le pb pc pj pt nw la ea E.length ec ka K.length kc tu fa F.length fc ra R.length rc tk ac dr E K F R hE hR h hs (enters_of Try.func58 (by kernel_rfl) rfl) (fun w2 B kb ea1 ec1 ka1 kc1 fa1 fc1 ra1 rc1 vs hx hk ho hB hg => (tkLate_any w2 B kb de qu wi ti qa bu le pb pc pj pt nw la ea1 ec1 ka1 kc1 tu fa1 fc1 ra1 rc1 tk ac dr 0 vs E K F R hx ho hB hs (gok_kd hg).1 (gok_kd hg).2 (gok_inj hg)).mono (fun e w' ⟨he, hx', ⟨vs', ho'⟩, hl'⟩ => ⟨ra1, rc1, vs', he, by rw [lateEs_len, List.length_map]; exact hx', by rw [lateEs_len, List.length_map]; exact ho', hl'⟩)))
  obtain ⟨gk, hgk⟩ : ∃ x, x = gokB de qu wi ti qa bu le pb pc pj pt nw la E.length K.length tu F.length R.length tk ac dr E K F R := ⟨_, rfl⟩
  rw [← hgk] at HST
  try rw [← hgk]
  clear hW0 hb01 hb02 h hs hE hR hgk
  go_enter Try.func24, Try.ntmps24
  go_upto_region 1 with fail
  rw [← HWE.out]
  clear HWE
  go_wp2_with (first | (refine wpList_load_box rfl _ 38 rfl rfl HA.out _ Try.underlying38 sizeGate ?_) | fail)
  refine (HST.out _ (HG.out.here HL.out)).mono ?_
  rintro e w1 ⟨⟨ea1, ec1, ka1, kc1, fa1, fc1, ra1, rc1, vs, rfl, ho⟩, hb⟩
  rw [sel_same (b := gk) (x := R)] at ho ⊢
  have HO := Lib.hid ho
  replace HA := Lib.hid (HA.out.below hb)
  replace HR := Lib.hid (HR.out.below hb)
  replace HL := Lib.hid (low_after HL.out hb)
  clear hb ho HST
  have hf1 : ∀ w : World, (Instr.field 76 (.agg #[.int .i64 de, .int .i64 qu, .int .i64 wi, .int .i64 ti, .int .i64 qa, .int .i64 bu, .int .i64 le, .int .i64 pb, .int .i64 pc, .int .i64 pj, .int .i64 pt, .int .i64 nw, .int .i64 la, .slice ea1 (sel (gk) (lateEs nw K E K.length) E).length ec1, .slice ka1 (sel (gk) (K.map (lateK nw)) K).length kc1, .int .i64 tu, .slice fa1 F.length fc1, .slice ra1 R.length rc1, .int .i64 tk, .int .i64 ac, .int .i64 dr, .int .i64 0, .slice none 0 0]) 0).run Try.prog w = .ok (.agg #[.int .i64 de, .int .i64 qu, .int .i64 wi, .int .i64 ti, .int .i64 qa, .int .i64 bu, .int .i64 le, .int .i64 pb, .int .i64 pc, .int .i64 pj, .int .i64 pt, .int .i64 nw, .int .i64 la, .slice ea1 (sel (gk) (lateEs nw K E K.length) E).length ec1, .slice ka1 (sel (gk) (K.map (lateK nw)) K).length kc1, .int .i64 tu, .slice fa1 F.length fc1, .slice ra1 R.length rc1, .int .i64 tk, .int .i64 ac, .int .i64 dr]) w := fun _ => by kernel_rfl
  have hf2 : ∀ w : World, (Instr.field 65 (.agg #[.int .i64 de, .int .i64 qu, .int .i64 wi, .int .i64 ti, .int .i64 qa, .int .i64 bu, .int .i64 le, .int .i64 pb, .int .i64 pc, .int .i64 pj, .int .i64 pt, .int .i64 nw, .int .i64 la, .slice ea1 (sel (gk) (lateEs nw K E K.length) E).length ec1, .slice ka1 (sel (gk) (K.map (lateK nw)) K).length kc1, .int .i64 tu, .slice fa1 F.length fc1, .slice ra1 R.length rc1, .int .i64 tk, .int .i64 ac, .int .i64 dr]) 0).run Try.prog w = .ok (.agg #[.int .i64 de, .int .i64 qu, .int .i64 wi, .int .i64 ti, .int .i64 qa, .int .i64 bu, .int .i64 le, .int .i64 pb, .int .i64 pc, .int .i64 pj, .int .i64 pt, .int .i64 nw, .int .i64 la, .slice ea1 (sel (gk) (lateEs nw K E K.length) E).length ec1, .slice ka1 (sel (gk) (K.map (lateK nw)) K).length kc1, .int .i64 tu, .slice fa1 F.length fc1, .slice ra1 R.length rc1, .int .i64 tk, .int .i64 ac, .int .i64 dr]) w := fun _ => by kernel_rfl
  go_wp2_with (first | (refine wpList_store_box rfl _ _ 38 rfl rfl [.int .i64 de, .int .i64 qu, .int .i64 wi, .int .i64 ti, .int .i64 qa, .int .i64 bu, .int .i64 le, .int .i64 pb, .int .i64 pc, .int .i64 pj, .int .i64 pt, .int .i64 nw, .int .i64 la, .slice ea1 (sel (gk) (lateEs nw K E K.length) E).length ec1, .slice ka1 (sel (gk) (K.map (lateK nw)) K).length kc1, .int .i64 tu, .slice fa1 F.length fc1, .slice ra1 R.length rc1, .int .i64 tk, .int .i64 ac, .int .i64 dr] rfl HR.out sizeGate rfl rfl ?_; intro V hXb hgV hlV) | fail)
  exact bodyPost_ret (v := .agg #[.int .i64 de, .int .i64 qu, .int .i64 wi, .int .i64 ti, .int .i64 qa, .int .i64 bu, .int .i64 le, .int .i64 pb, .int .i64 pc, .int .i64 pj, .int .i64 pt, .int .i64 nw, .int .i64 la, .slice ea1 (sel (gk) (lateEs nw K E K.length) E).length ec1, .slice ka1 (sel (gk) (K.map (lateK nw)) K).length kc1, .int .i64 tu, .slice fa1 F.length fc1, .slice ra1 R.length rc1, .int .i64 tk, .int .i64 ac, .int .i64 dr]) (results_box _ Try.results24 rfl hXb _ Try.underlying38 sizeGate) rfl ⟨⟨ea1, ec1, ka1, kc1, fa1, fc1, ra1, rc1, vs, rfl, (HO.out.low hgV (by have := HSZ.out; omega)).base (by have := HSZ.out; omega)⟩, hlV w.heap.size w (by omega) HL.out⟩

set_option maxRecDepth 100000 in
set_option maxHeartbeats 8000000 in
theorem implStOld_any (w : World) (de qu wi ti qa bu le pb pc pj pt nw la : Int) (ea : Option Addr) (en ec : Nat) (ka : Option Addr) (kn kc : Nat) (tu : Int) (fa : Option Addr) (fn fc : Nat) (ra : Option Addr) (rn rc : Nat) (tk ac dr : Int) (E : List Ev) (K : List Lk) (F R : List Int) (hE : ∀ e ∈ E, (Lit.int .i64 e.i).wf = true) (hR : ∀ x ∈ R, (Lit.int .i64 x).wf = true) (h : GIs w.heap.size w ea en ka kn fa fn ra rn E K F R) (hs : Small en kn fn rn K) :
    Calls Try.prog 26 #[.agg #[.int .i64 de, .int .i64 qu, .int .i64 wi, .int .i64 ti, .int .i64 qa, .int .i64 bu, .int .i64 le, .int .i64 pb, .int .i64 pc, .int .i64 pj, .int .i64 pt, .int .i64 nw, .int .i64 la, .slice ea en ec, .slice ka kn kc, .int .i64 tu, .slice fa fn fc, .slice ra rn rc, .int .i64 tk, .int .i64 ac, .int .i64 dr]] w fun e w' => GEnd w w' de qu wi ti qa bu le pb pc pj pt nw la tu tk ac dr (sel (gokB de qu wi ti qa bu le pb pc pj pt nw la en kn tu fn rn tk ac dr E K F R) (E.map (oldE nw)) E) (sel (gokB de qu wi ti qa bu le pb pc pj pt nw la en kn tu fn rn tk ac dr E K F R) (oldKs nw K E E.length) K) F R e := by
  obtain rfl : E.length = en := h.ev.row.hlen
  obtain rfl : K.length = kn := h.lk.hlen
  obtain rfl : F.length = fn := h.lf.hlen
  obtain rfl : R.length = rn := h.lt.hlen
  obtain ⟨W0, hW0⟩ : ∃ W, W = (w.alloc (.cells #[.int .i64 de, .int .i64 qu, .int .i64 wi, .int .i64 ti, .int .i64 qa, .int .i64 bu, .int .i64 le, .int .i64 pb, .int .i64 pc, .int .i64 pj, .int .i64 pt, .int .i64 nw, .int .i64 la, .slice ea E.length ec, .slice ka K.length kc, .int .i64 tu, .slice fa F.length fc, .slice ra R.length rc, .int .i64 tk, .int .i64 ac, .int .i64 dr] 38)).alloc (.cells #[.int .i64 0, .int .i64 0, .int .i64 0, .int .i64 0, .int .i64 0, .int .i64 0, .int .i64 0, .int .i64 0, .int .i64 0, .int .i64 0, .int .i64 0, .int .i64 0, .int .i64 0, .slice none 0 0, .slice none 0 0, .int .i64 0, .slice none 0 0, .slice none 0 0, .int .i64 0, .int .i64 0, .int .i64 0] 38) := ⟨_, rfl⟩
  have hb01 := bOne w (.cells #[.int .i64 de, .int .i64 qu, .int .i64 wi, .int .i64 ti, .int .i64 qa, .int .i64 bu, .int .i64 le, .int .i64 pb, .int .i64 pc, .int .i64 pj, .int .i64 pt, .int .i64 nw, .int .i64 la, .slice ea E.length ec, .slice ka K.length kc, .int .i64 tu, .slice fa F.length fc, .slice ra R.length rc, .int .i64 tk, .int .i64 ac, .int .i64 dr] 38)
  have hb02 := bOne (w.alloc (.cells #[.int .i64 de, .int .i64 qu, .int .i64 wi, .int .i64 ti, .int .i64 qa, .int .i64 bu, .int .i64 le, .int .i64 pb, .int .i64 pc, .int .i64 pj, .int .i64 pt, .int .i64 nw, .int .i64 la, .slice ea E.length ec, .slice ka K.length kc, .int .i64 tu, .slice fa F.length fc, .slice ra R.length rc, .int .i64 tk, .int .i64 ac, .int .i64 dr] 38)) (.cells #[.int .i64 0, .int .i64 0, .int .i64 0, .int .i64 0, .int .i64 0, .int .i64 0, .int .i64 0, .int .i64 0, .int .i64 0, .int .i64 0, .int .i64 0, .int .i64 0, .int .i64 0, .slice none 0 0, .slice none 0 0, .int .i64 0, .slice none 0 0, .slice none 0 0, .int .i64 0, .int .i64 0, .int .i64 0] 38)
  have HA : Hid (Box W0 w.heap.size 38 [.int .i64 de, .int .i64 qu, .int .i64 wi, .int .i64 ti, .int .i64 qa, .int .i64 bu, .int .i64 le, .int .i64 pb, .int .i64 pc, .int .i64 pj, .int .i64 pt, .int .i64 nw, .int .i64 la, .slice ea E.length ec, .slice ka K.length kc, .int .i64 tu, .slice fa F.length fc, .slice ra R.length rc, .int .i64 tk, .int .i64 ac, .int .i64 dr]) := Lib.hid (by rw [hW0]; exact (Box.new w [.int .i64 de, .int .i64 qu, .int .i64 wi, .int .i64 ti, .int .i64 qa, .int .i64 bu, .int .i64 le, .int .i64 pb, .int .i64 pc, .int .i64 pj, .int .i64 pt, .int .i64 nw, .int .i64 la, .slice ea E.length ec, .slice ka K.length kc, .int .i64 tu, .slice fa F.length fc, .slice ra R.length rc, .int .i64 tk, .int .i64 ac, .int .i64 dr] 38).below hb02)
  have HR : Hid (Box W0 (w.heap.size + 1) 38 [.int .i64 0, .int .i64 0, .int .i64 0, .int .i64 0, .int .i64 0, .int .i64 0, .int .i64 0, .int .i64 0, .int .i64 0, .int .i64 0, .int .i64 0, .int .i64 0, .int .i64 0, .slice none 0 0, .slice none 0 0, .int .i64 0, .slice none 0 0, .slice none 0 0, .int .i64 0, .int .i64 0, .int .i64 0]) := Lib.hid (by
    rw [hW0]
    have := Box.new (w.alloc (.cells #[.int .i64 de, .int .i64 qu, .int .i64 wi, .int .i64 ti, .int .i64 qa, .int .i64 bu, .int .i64 le, .int .i64 pb, .int .i64 pc, .int .i64 pj, .int .i64 pt, .int .i64 nw, .int .i64 la, .slice ea E.length ec, .slice ka K.length kc, .int .i64 tu, .slice fa F.length fc, .slice ra R.length rc, .int .i64 tk, .int .i64 ac, .int .i64 dr] 38)) [.int .i64 0, .int .i64 0, .int .i64 0, .int .i64 0, .int .i64 0, .int .i64 0, .int .i64 0, .int .i64 0, .int .i64 0, .int .i64 0, .int .i64 0, .int .i64 0, .int .i64 0, .slice none 0 0, .slice none 0 0, .int .i64 0, .slice none 0 0, .slice none 0 0, .int .i64 0, .int .i64 0, .int .i64 0] 38
    simpa using this)
  have HL : Hid (Below w.heap.size w W0) := Lib.hid (by rw [hW0]; exact hb01.trans (hb02.mono (by simp)))
  have HSZ := Lib.hid (show w.heap.size + 2 ≤ W0.heap.size by rw [hW0]; simp)
  have HWE := Lib.hid hW0
  have HG := Lib.hid h
  have HSM := Lib.hid hs
  have HE := Lib.hid hE
  have HRW := Lib.hid hR
  have HST := Lib.hid (fun (w : World) (h : GIs w.heap.size w ea E.length ka K.length fa F.length ra R.length E K F R) => afterStep_any 61 (E.map (oldE nw)) (oldKs nw K E E.length) R w de qu wi ti qa bu le pb pc pj pt nw la ea E.length ec ka K.length kc tu fa F.length fc ra R.length rc tk ac dr E K F R hE hR h hs (enters_of Try.func61 (by kernel_rfl) rfl) (fun w2 B kb ea1 ec1 ka1 kc1 fa1 fc1 ra1 rc1 vs hx hk ho hB hg => (tkOld_any w2 B kb de qu wi ti qa bu le pb pc pj pt nw la ea1 ec1 ka1 kc1 tu fa1 fc1 ra1 rc1 tk ac dr 0 vs E K F R hx ho hB hs (gok_kd hg).1 (gok_kd hg).2 (gok_evs hg)).mono (fun e w' ⟨he, hx', ⟨vs', ho'⟩, hl'⟩ => ⟨ra1, rc1, vs', he, by rw [List.length_map, oldKs_len]; exact hx', by rw [List.length_map, oldKs_len]; exact ho', hl'⟩)))
  obtain ⟨gk, hgk⟩ : ∃ x, x = gokB de qu wi ti qa bu le pb pc pj pt nw la E.length K.length tu F.length R.length tk ac dr E K F R := ⟨_, rfl⟩
  rw [← hgk] at HST
  try rw [← hgk]
  clear hW0 hb01 hb02 h hs hE hR hgk
  go_enter Try.func26, Try.ntmps26
  go_upto_region 1 with fail
  rw [← HWE.out]
  clear HWE
  go_wp2_with (first | (refine wpList_load_box rfl _ 38 rfl rfl HA.out _ Try.underlying38 sizeGate ?_) | fail)
  refine (HST.out _ (HG.out.here HL.out)).mono ?_
  rintro e w1 ⟨⟨ea1, ec1, ka1, kc1, fa1, fc1, ra1, rc1, vs, rfl, ho⟩, hb⟩
  rw [sel_same (b := gk) (x := R)] at ho ⊢
  have HO := Lib.hid ho
  replace HA := Lib.hid (HA.out.below hb)
  replace HR := Lib.hid (HR.out.below hb)
  replace HL := Lib.hid (low_after HL.out hb)
  clear hb ho HST
  have hf1 : ∀ w : World, (Instr.field 76 (.agg #[.int .i64 de, .int .i64 qu, .int .i64 wi, .int .i64 ti, .int .i64 qa, .int .i64 bu, .int .i64 le, .int .i64 pb, .int .i64 pc, .int .i64 pj, .int .i64 pt, .int .i64 nw, .int .i64 la, .slice ea1 (sel (gk) (E.map (oldE nw)) E).length ec1, .slice ka1 (sel (gk) (oldKs nw K E E.length) K).length kc1, .int .i64 tu, .slice fa1 F.length fc1, .slice ra1 R.length rc1, .int .i64 tk, .int .i64 ac, .int .i64 dr, .int .i64 0, .slice none 0 0]) 0).run Try.prog w = .ok (.agg #[.int .i64 de, .int .i64 qu, .int .i64 wi, .int .i64 ti, .int .i64 qa, .int .i64 bu, .int .i64 le, .int .i64 pb, .int .i64 pc, .int .i64 pj, .int .i64 pt, .int .i64 nw, .int .i64 la, .slice ea1 (sel (gk) (E.map (oldE nw)) E).length ec1, .slice ka1 (sel (gk) (oldKs nw K E E.length) K).length kc1, .int .i64 tu, .slice fa1 F.length fc1, .slice ra1 R.length rc1, .int .i64 tk, .int .i64 ac, .int .i64 dr]) w := fun _ => by kernel_rfl
  have hf2 : ∀ w : World, (Instr.field 65 (.agg #[.int .i64 de, .int .i64 qu, .int .i64 wi, .int .i64 ti, .int .i64 qa, .int .i64 bu, .int .i64 le, .int .i64 pb, .int .i64 pc, .int .i64 pj, .int .i64 pt, .int .i64 nw, .int .i64 la, .slice ea1 (sel (gk) (E.map (oldE nw)) E).length ec1, .slice ka1 (sel (gk) (oldKs nw K E E.length) K).length kc1, .int .i64 tu, .slice fa1 F.length fc1, .slice ra1 R.length rc1, .int .i64 tk, .int .i64 ac, .int .i64 dr]) 0).run Try.prog w = .ok (.agg #[.int .i64 de, .int .i64 qu, .int .i64 wi, .int .i64 ti, .int .i64 qa, .int .i64 bu, .int .i64 le, .int .i64 pb, .int .i64 pc, .int .i64 pj, .int .i64 pt, .int .i64 nw, .int .i64 la, .slice ea1 (sel (gk) (E.map (oldE nw)) E).length ec1, .slice ka1 (sel (gk) (oldKs nw K E E.length) K).length kc1, .int .i64 tu, .slice fa1 F.length fc1, .slice ra1 R.length rc1, .int .i64 tk, .int .i64 ac, .int .i64 dr]) w := fun _ => by kernel_rfl
  go_wp2_with (first | (refine wpList_store_box rfl _ _ 38 rfl rfl [.int .i64 de, .int .i64 qu, .int .i64 wi, .int .i64 ti, .int .i64 qa, .int .i64 bu, .int .i64 le, .int .i64 pb, .int .i64 pc, .int .i64 pj, .int .i64 pt, .int .i64 nw, .int .i64 la, .slice ea1 (sel (gk) (E.map (oldE nw)) E).length ec1, .slice ka1 (sel (gk) (oldKs nw K E E.length) K).length kc1, .int .i64 tu, .slice fa1 F.length fc1, .slice ra1 R.length rc1, .int .i64 tk, .int .i64 ac, .int .i64 dr] rfl HR.out sizeGate rfl rfl ?_; intro V hXb hgV hlV) | fail)
  exact bodyPost_ret (v := .agg #[.int .i64 de, .int .i64 qu, .int .i64 wi, .int .i64 ti, .int .i64 qa, .int .i64 bu, .int .i64 le, .int .i64 pb, .int .i64 pc, .int .i64 pj, .int .i64 pt, .int .i64 nw, .int .i64 la, .slice ea1 (sel (gk) (E.map (oldE nw)) E).length ec1, .slice ka1 (sel (gk) (oldKs nw K E E.length) K).length kc1, .int .i64 tu, .slice fa1 F.length fc1, .slice ra1 R.length rc1, .int .i64 tk, .int .i64 ac, .int .i64 dr]) (results_box _ Try.results26 rfl hXb _ Try.underlying38 sizeGate) rfl ⟨⟨ea1, ec1, ka1, kc1, fa1, fc1, ra1, rc1, vs, rfl, (HO.out.low hgV (by have := HSZ.out; omega)).base (by have := HSZ.out; omega)⟩, hlV w.heap.size w (by omega) HL.out⟩

set_option maxRecDepth 100000 in
set_option maxHeartbeats 8000000 in
theorem implStDead_any (w : World) (de qu wi ti qa bu le pb pc pj pt nw la : Int) (ea : Option Addr) (en ec : Nat) (ka : Option Addr) (kn kc : Nat) (tu : Int) (fa : Option Addr) (fn fc : Nat) (ra : Option Addr) (rn rc : Nat) (tk ac dr : Int) (E : List Ev) (K : List Lk) (F R : List Int) (hE : ∀ e ∈ E, (Lit.int .i64 e.i).wf = true) (hR : ∀ x ∈ R, (Lit.int .i64 x).wf = true) (h : GIs w.heap.size w ea en ka kn fa fn ra rn E K F R) (hs : Small en kn fn rn K) :
    Calls Try.prog 28 #[.agg #[.int .i64 de, .int .i64 qu, .int .i64 wi, .int .i64 ti, .int .i64 qa, .int .i64 bu, .int .i64 le, .int .i64 pb, .int .i64 pc, .int .i64 pj, .int .i64 pt, .int .i64 nw, .int .i64 la, .slice ea en ec, .slice ka kn kc, .int .i64 tu, .slice fa fn fc, .slice ra rn rc, .int .i64 tk, .int .i64 ac, .int .i64 dr]] w fun e w' => GEnd w w' de qu wi ti qa bu le pb pc pj pt nw la tu tk ac dr (sel (gokB de qu wi ti qa bu le pb pc pj pt nw la en kn tu fn rn tk ac dr E K F R) (deadEs le E R E.length) E) K F (sel (gokB de qu wi ti qa bu le pb pc pj pt nw la en kn tu fn rn tk ac dr E K F R) (deadR le E R E.length) R) e := by
  obtain rfl : E.length = en := h.ev.row.hlen
  obtain rfl : K.length = kn := h.lk.hlen
  obtain rfl : F.length = fn := h.lf.hlen
  obtain rfl : R.length = rn := h.lt.hlen
  obtain ⟨W0, hW0⟩ : ∃ W, W = (w.alloc (.cells #[.int .i64 de, .int .i64 qu, .int .i64 wi, .int .i64 ti, .int .i64 qa, .int .i64 bu, .int .i64 le, .int .i64 pb, .int .i64 pc, .int .i64 pj, .int .i64 pt, .int .i64 nw, .int .i64 la, .slice ea E.length ec, .slice ka K.length kc, .int .i64 tu, .slice fa F.length fc, .slice ra R.length rc, .int .i64 tk, .int .i64 ac, .int .i64 dr] 38)).alloc (.cells #[.int .i64 0, .int .i64 0, .int .i64 0, .int .i64 0, .int .i64 0, .int .i64 0, .int .i64 0, .int .i64 0, .int .i64 0, .int .i64 0, .int .i64 0, .int .i64 0, .int .i64 0, .slice none 0 0, .slice none 0 0, .int .i64 0, .slice none 0 0, .slice none 0 0, .int .i64 0, .int .i64 0, .int .i64 0] 38) := ⟨_, rfl⟩
  have hb01 := bOne w (.cells #[.int .i64 de, .int .i64 qu, .int .i64 wi, .int .i64 ti, .int .i64 qa, .int .i64 bu, .int .i64 le, .int .i64 pb, .int .i64 pc, .int .i64 pj, .int .i64 pt, .int .i64 nw, .int .i64 la, .slice ea E.length ec, .slice ka K.length kc, .int .i64 tu, .slice fa F.length fc, .slice ra R.length rc, .int .i64 tk, .int .i64 ac, .int .i64 dr] 38)
  have hb02 := bOne (w.alloc (.cells #[.int .i64 de, .int .i64 qu, .int .i64 wi, .int .i64 ti, .int .i64 qa, .int .i64 bu, .int .i64 le, .int .i64 pb, .int .i64 pc, .int .i64 pj, .int .i64 pt, .int .i64 nw, .int .i64 la, .slice ea E.length ec, .slice ka K.length kc, .int .i64 tu, .slice fa F.length fc, .slice ra R.length rc, .int .i64 tk, .int .i64 ac, .int .i64 dr] 38)) (.cells #[.int .i64 0, .int .i64 0, .int .i64 0, .int .i64 0, .int .i64 0, .int .i64 0, .int .i64 0, .int .i64 0, .int .i64 0, .int .i64 0, .int .i64 0, .int .i64 0, .int .i64 0, .slice none 0 0, .slice none 0 0, .int .i64 0, .slice none 0 0, .slice none 0 0, .int .i64 0, .int .i64 0, .int .i64 0] 38)
  have HA : Hid (Box W0 w.heap.size 38 [.int .i64 de, .int .i64 qu, .int .i64 wi, .int .i64 ti, .int .i64 qa, .int .i64 bu, .int .i64 le, .int .i64 pb, .int .i64 pc, .int .i64 pj, .int .i64 pt, .int .i64 nw, .int .i64 la, .slice ea E.length ec, .slice ka K.length kc, .int .i64 tu, .slice fa F.length fc, .slice ra R.length rc, .int .i64 tk, .int .i64 ac, .int .i64 dr]) := Lib.hid (by rw [hW0]; exact (Box.new w [.int .i64 de, .int .i64 qu, .int .i64 wi, .int .i64 ti, .int .i64 qa, .int .i64 bu, .int .i64 le, .int .i64 pb, .int .i64 pc, .int .i64 pj, .int .i64 pt, .int .i64 nw, .int .i64 la, .slice ea E.length ec, .slice ka K.length kc, .int .i64 tu, .slice fa F.length fc, .slice ra R.length rc, .int .i64 tk, .int .i64 ac, .int .i64 dr] 38).below hb02)
  have HR : Hid (Box W0 (w.heap.size + 1) 38 [.int .i64 0, .int .i64 0, .int .i64 0, .int .i64 0, .int .i64 0, .int .i64 0, .int .i64 0, .int .i64 0, .int .i64 0, .int .i64 0, .int .i64 0, .int .i64 0, .int .i64 0, .slice none 0 0, .slice none 0 0, .int .i64 0, .slice none 0 0, .slice none 0 0, .int .i64 0, .int .i64 0, .int .i64 0]) := Lib.hid (by
    rw [hW0]
    have := Box.new (w.alloc (.cells #[.int .i64 de, .int .i64 qu, .int .i64 wi, .int .i64 ti, .int .i64 qa, .int .i64 bu, .int .i64 le, .int .i64 pb, .int .i64 pc, .int .i64 pj, .int .i64 pt, .int .i64 nw, .int .i64 la, .slice ea E.length ec, .slice ka K.length kc, .int .i64 tu, .slice fa F.length fc, .slice ra R.length rc, .int .i64 tk, .int .i64 ac, .int .i64 dr] 38)) [.int .i64 0, .int .i64 0, .int .i64 0, .int .i64 0, .int .i64 0, .int .i64 0, .int .i64 0, .int .i64 0, .int .i64 0, .int .i64 0, .int .i64 0, .int .i64 0, .int .i64 0, .slice none 0 0, .slice none 0 0, .int .i64 0, .slice none 0 0, .slice none 0 0, .int .i64 0, .int .i64 0, .int .i64 0] 38
    simpa using this)
  have HL : Hid (Below w.heap.size w W0) := Lib.hid (by rw [hW0]; exact hb01.trans (hb02.mono (by simp)))
  have HSZ := Lib.hid (show w.heap.size + 2 ≤ W0.heap.size by rw [hW0]; simp)
  have HWE := Lib.hid hW0
  have HG := Lib.hid h
  have HSM := Lib.hid hs
  have HE := Lib.hid hE
  have HRW := Lib.hid hR
  have HST := Lib.hid (fun (w : World) (h : GIs w.heap.size w ea E.length ka K.length fa F.length ra R.length E K F R) => afterStep_any 62 (deadEs le E R E.length) K (deadR le E R E.length) w de qu wi ti qa bu le pb pc pj pt nw la ea E.length ec ka K.length kc tu fa F.length fc ra R.length rc tk ac dr E K F R hE hR h hs (enters_of Try.func62 (by kernel_rfl) rfl) (fun w2 B kb ea1 ec1 ka1 kc1 fa1 fc1 ra1 rc1 vs hx hk ho hB hg => (tkDead_any w2 B kb de qu wi ti qa bu le pb pc pj pt nw la ea1 ec1 ka1 kc1 tu fa1 fc1 ra1 rc1 tk ac dr 0 vs E K F R hx hk ho hB hs.1 (gok_le hg) (by have := (gok_tot hg).2; omega)).mono (fun e w' ⟨ra2, rc2, he, hx', ho', hl'⟩ => ⟨ra2, rc2, vs, he, by rw [deadEs_len]; exact hx', by rw [deadEs_len]; exact ho', hl'⟩)))
  obtain ⟨gk, hgk⟩ : ∃ x, x = gokB de qu wi ti qa bu le pb pc pj pt nw la E.length K.length tu F.length R.length tk ac dr E K F R := ⟨_, rfl⟩
  rw [← hgk] at HST
  try rw [← hgk]
  clear hW0 hb01 hb02 h hs hE hR hgk
  go_enter Try.func28, Try.ntmps28
  go_upto_region 1 with fail
  rw [← HWE.out]
  clear HWE
  go_wp2_with (first | (refine wpList_load_box rfl _ 38 rfl rfl HA.out _ Try.underlying38 sizeGate ?_) | fail)
  refine (HST.out _ (HG.out.here HL.out)).mono ?_
  rintro e w1 ⟨⟨ea1, ec1, ka1, kc1, fa1, fc1, ra1, rc1, vs, rfl, ho⟩, hb⟩
  rw [sel_same (b := gk) (x := K)] at ho ⊢
  have HO := Lib.hid ho
  replace HA := Lib.hid (HA.out.below hb)
  replace HR := Lib.hid (HR.out.below hb)
  replace HL := Lib.hid (low_after HL.out hb)
  clear hb ho HST
  have hf1 : ∀ w : World, (Instr.field 76 (.agg #[.int .i64 de, .int .i64 qu, .int .i64 wi, .int .i64 ti, .int .i64 qa, .int .i64 bu, .int .i64 le, .int .i64 pb, .int .i64 pc, .int .i64 pj, .int .i64 pt, .int .i64 nw, .int .i64 la, .slice ea1 (sel (gk) (deadEs le E R E.length) E).length ec1, .slice ka1 K.length kc1, .int .i64 tu, .slice fa1 F.length fc1, .slice ra1 (sel (gk) (deadR le E R E.length) R).length rc1, .int .i64 tk, .int .i64 ac, .int .i64 dr, .int .i64 0, .slice none 0 0]) 0).run Try.prog w = .ok (.agg #[.int .i64 de, .int .i64 qu, .int .i64 wi, .int .i64 ti, .int .i64 qa, .int .i64 bu, .int .i64 le, .int .i64 pb, .int .i64 pc, .int .i64 pj, .int .i64 pt, .int .i64 nw, .int .i64 la, .slice ea1 (sel (gk) (deadEs le E R E.length) E).length ec1, .slice ka1 K.length kc1, .int .i64 tu, .slice fa1 F.length fc1, .slice ra1 (sel (gk) (deadR le E R E.length) R).length rc1, .int .i64 tk, .int .i64 ac, .int .i64 dr]) w := fun _ => by kernel_rfl
  have hf2 : ∀ w : World, (Instr.field 65 (.agg #[.int .i64 de, .int .i64 qu, .int .i64 wi, .int .i64 ti, .int .i64 qa, .int .i64 bu, .int .i64 le, .int .i64 pb, .int .i64 pc, .int .i64 pj, .int .i64 pt, .int .i64 nw, .int .i64 la, .slice ea1 (sel (gk) (deadEs le E R E.length) E).length ec1, .slice ka1 K.length kc1, .int .i64 tu, .slice fa1 F.length fc1, .slice ra1 (sel (gk) (deadR le E R E.length) R).length rc1, .int .i64 tk, .int .i64 ac, .int .i64 dr]) 0).run Try.prog w = .ok (.agg #[.int .i64 de, .int .i64 qu, .int .i64 wi, .int .i64 ti, .int .i64 qa, .int .i64 bu, .int .i64 le, .int .i64 pb, .int .i64 pc, .int .i64 pj, .int .i64 pt, .int .i64 nw, .int .i64 la, .slice ea1 (sel (gk) (deadEs le E R E.length) E).length ec1, .slice ka1 K.length kc1, .int .i64 tu, .slice fa1 F.length fc1, .slice ra1 (sel (gk) (deadR le E R E.length) R).length rc1, .int .i64 tk, .int .i64 ac, .int .i64 dr]) w := fun _ => by kernel_rfl
  go_wp2_with (first | (refine wpList_store_box rfl _ _ 38 rfl rfl [.int .i64 de, .int .i64 qu, .int .i64 wi, .int .i64 ti, .int .i64 qa, .int .i64 bu, .int .i64 le, .int .i64 pb, .int .i64 pc, .int .i64 pj, .int .i64 pt, .int .i64 nw, .int .i64 la, .slice ea1 (sel (gk) (deadEs le E R E.length) E).length ec1, .slice ka1 K.length kc1, .int .i64 tu, .slice fa1 F.length fc1, .slice ra1 (sel (gk) (deadR le E R E.length) R).length rc1, .int .i64 tk, .int .i64 ac, .int .i64 dr] rfl HR.out sizeGate rfl rfl ?_; intro V hXb hgV hlV) | fail)
  exact bodyPost_ret (v := .agg #[.int .i64 de, .int .i64 qu, .int .i64 wi, .int .i64 ti, .int .i64 qa, .int .i64 bu, .int .i64 le, .int .i64 pb, .int .i64 pc, .int .i64 pj, .int .i64 pt, .int .i64 nw, .int .i64 la, .slice ea1 (sel (gk) (deadEs le E R E.length) E).length ec1, .slice ka1 K.length kc1, .int .i64 tu, .slice fa1 F.length fc1, .slice ra1 (sel (gk) (deadR le E R E.length) R).length rc1, .int .i64 tk, .int .i64 ac, .int .i64 dr]) (results_box _ Try.results28 rfl hXb _ Try.underlying38 sizeGate) rfl ⟨⟨ea1, ec1, ka1, kc1, fa1, fc1, ra1, rc1, vs, rfl, (HO.out.low hgV (by have := HSZ.out; omega)).base (by have := HSZ.out; omega)⟩, hlV w.heap.size w (by omega) HL.out⟩

end Go.Proofs.Ytlcllbdalabciaa.Gat
