/-
  keeper.remove; the program's Drain.
-/
import Derived.Test.YtlcllbdalabciaaGiGm
namespace Go.Proofs.Ytlcllbdalabciaa.Gat
open Go.RowKit
open Lnk (bOne bAfter IOwn IIs YOwn YIs below_keep below_drew' bcell low_after low_alloc grown_of_below)
set_option linter.unusedVariables false
set_option linter.unusedSimpArgs false

theorem gRows_rowTy {ev lk lf lt : Value} {vs : List Value} {E : List Ev} {K : List Lk} {F R : List Int} : ∀ r ∈ gRows ev lk lf lt vs E K F R, rowTy r.E = true := by
  intro r hr
  unfold gRows at hr
  simp only [List.mem_cons] at hr
  rcases hr with rfl | rfl | rfl | rfl | hr
  · rfl
  · rfl
  · rfl
  · rfl
  · rw [flRs_ty hr]; rfl
/-- a box of another type was written -/
theorem GOwn.offbox4 {B : Nat} {w w' : World} {ev lk lf lt : Value} {vs : List Value} {E : List Ev} {K : List Lk} {F R : List Int} {k : Nat} {T : TypeId} {l : List Value} (h : GOwn B w ev lk lf lt vs E K F R) (hb : Box w k T l) (hT : rowTy T = false) (hg : w.grownBy w' (some k)) : GOwn B w' ev lk lf lt vs E K F R :=
  ⟨h.rows.offbox hb (fun r hr e => by have h1 := gRows_rowTy r hr; rw [e, hT] at h1; cases h1) hg, h.len, h.body⟩

set_option maxRecDepth 100000 in
set_option maxHeartbeats 4000000 in
theorem keepRemove_any (w : World) (B Bi kb : Nat) (T : TypeId) (rest : List Value) (de qu wi ti qa bu le pb pc pj pt nw la : Int) (ea : Option Addr) (ec : Nat) (ka : Option Addr) (kc : Nat) (tu : Int) (fa : Option Addr) (fc : Nat) (ra : Option Addr) (rc : Nat) (tk ac dr : Int) (vs : List Value) (E : List Ev) (K : List Lk) (F R : List Int) (ia : Option Addr) (ic : Nat) (ids : List Int) (hx : Box w kb T ([.int .i64 de, .int .i64 qu, .int .i64 wi, .int .i64 ti, .int .i64 qa, .int .i64 bu, .int .i64 le, .int .i64 pb, .int .i64 pc, .int .i64 pj, .int .i64 pt, .int .i64 nw, .int .i64 la, .slice ea E.length ec, .slice ka K.length kc, .int .i64 tu, .slice fa F.length fc, .slice ra R.length rc, .int .i64 tk, .int .i64 ac, .int .i64 dr] ++ rest)) (hT : rowTy T = false) (hkb : B ≤ kb) (h : GOwn B w (.slice ea E.length ec) (.slice ka K.length kc) (.slice fa F.length fc) (.slice ra R.length rc) vs E K F R) (hB : B ≤ w.heap.size) (hi : (inR (.slice ia ids.length ic) ids).At Bi w) (hen : E.length ≤ 1048576) (hil : ids.length ≤ 1048576) :
    Calls Try.prog 55 #[.pointer (some ⟨kb, 0, none⟩), .slice ia ids.length ic] w fun e w' => e = .returned (.tuple #[]) ∧ Box w' kb T ([.int .i64 de, .int .i64 qu, .int .i64 wi, .int .i64 ti, .int .i64 qa, .int .i64 bu, .int .i64 le, .int .i64 pb, .int .i64 pc, .int .i64 pj, .int .i64 pt, .int .i64 nw, .int .i64 la, .slice ea (keepL ids E).length ec, .slice ka K.length kc, .int .i64 tu, .slice fa F.length fc, .slice ra R.length rc, .int .i64 tk, .int .i64 ac, .int .i64 dr] ++ rest) ∧ GOwn B w' (.slice ea (keepL ids E).length ec) (.slice ka K.length kc) (.slice fa F.length fc) (.slice ra R.length rc) vs (keepL ids E) K F R ∧ Below B w w' := by
  have hmf : ∀ (fn : Fn) (first cap : Array Value) (w : World), (Instr.makeFunc fn first cap).run Try.prog w = .ok (.func fn first cap) w := fun _ _ _ _ => rfl
  have hb := bOne w (.cells #[.slice ia ids.length ic] 28)
  have HX := Lib.hid (hx.below hb)
  have HO := Lib.hid (h.below hb)
  have HID := Lib.hid (show IdB (w.alloc (.cells #[.slice ia ids.length ic] 28)) w.heap.size Bi ia ids.length ic ids from ⟨Box.new w [.slice ia ids.length ic] _, inR_below hi hb⟩)
  have HL := Lib.hid (hb.mono hB)
  have HBW := Lib.hid (Nat.le_trans hB hb.size)
  have HBY := Lib.hid h.body
  clear hx h hi hb
  have c13 := HX.out.cell 13 _ rfl
  go_enter Try.func55, Try.ntmps55
  go_wp2_with fail
  clear c13
  refine (deleteFn_any _ B w.heap.size Bi ia ids.length ic ids ea ec E HID.out hil HO.out.evO hen).mono ?_
  rintro e w1 ⟨rfl, ho, hg⟩
  have hat : (evR (.slice ea E.length ec) E).At B (w.alloc (.cells #[.slice ia ids.length ic] 28)) := HO.out.rows.at_ _ (by simp [gRows])
  replace HX := Lib.hid (HX.out.grown hg (hat.ne_box rfl HX.out hT))
  replace HL := Lib.hid (HL.out.grown hg HBW.out (fun q e => (hat.lt q e).1))
  replace HBW := Lib.hid (Nat.le_trans HBW.out hg.size)
  replace HO := Lib.hid (HO.out.setEv hg ho (.inl (by cases ea <;> rfl)) (keepL_body HBY.out))
  clear ho hg hat HID
  have d13 := HX.out.cell 13 _ rfl
  have f13 := HX.out.frozen 13
  go_wp2_with fail
  obtain ⟨V, hV⟩ : ∃ V, V = w1.setCell ⟨kb, 13, none⟩ (.slice ea (keepL ids E).length ec) := ⟨_, rfl⟩
  have hg : w1.grownBy V (some kb) := by rw [hV]; exact store_grown [.slice ea (keepL ids E).length ec] 13 _
  have hx2 : Box V kb T ([.int .i64 de, .int .i64 qu, .int .i64 wi, .int .i64 ti, .int .i64 qa, .int .i64 bu, .int .i64 le, .int .i64 pb, .int .i64 pc, .int .i64 pj, .int .i64 pt, .int .i64 nw, .int .i64 la, .slice ea (keepL ids E).length ec, .slice ka K.length kc, .int .i64 tu, .slice fa F.length fc, .slice ra R.length rc, .int .i64 tk, .int .i64 ac, .int .i64 dr] ++ rest) := by rw [hV]; exact Box.store [.slice ea (keepL ids E).length ec] 13 _ _ HX.out
  have ho2 := (GOwn.offbox4 HO.out HX.out hT hg)
  have hl2 : Below B w V := HL.out.grown hg HBW.out (fun q e => by cases e; exact hkb)
  exact bodyPost_end (v := .tuple #[]) (by simp [results, Try.results55]) rfl ⟨rfl, by rw [← hV]; exact hx2, by rw [← hV]; exact ho2, by rw [← hV]; exact hl2⟩

theorem gok_tot {de qu wi ti qa bu le pb pc pj pt nw la : Int} {en kn : Nat} {tu : Int} {fn rn : Nat} {tk ac dr : Int} {E : List Ev} {K : List Lk} {F R : List Int} (h : gokB de qu wi ti qa bu le pb pc pj pt nw la en kn tu fn rn tk ac dr E K F R = true) : (0 ≤ dr ∧ dr ≤ 9999) ∧ (rn : Int) ≤ 20 := by
  have h1 := gokB_true h
  have h2 := h1.1
  unfold CfgOk at h2
  have h3 := h1.2.2.2.2.2.2.1.1
  exact ⟨h1.2.2.2.2.2.2.2.2.2.1, by omega⟩
set_option maxRecDepth 100000 in
set_option maxHeartbeats 8000000 in
theorem implDrain_any (w : World) (de qu wi ti qa bu le pb pc pj pt nw la : Int) (ea : Option Addr) (en ec : Nat) (ka : Option Addr) (kn kc : Nat) (tu : Int) (fa : Option Addr) (fn fc : Nat) (ra : Option Addr) (rn rc : Nat) (tk ac dr : Int) (E : List Ev) (K : List Lk) (F R : List Int) (hE : ∀ e ∈ E, (Lit.int .i64 e.i).wf = true) (hR : ∀ x ∈ R, (Lit.int .i64 x).wf = true) (h : GIs w.heap.size w ea en ka kn fa fn ra rn E K F R) (hs : Small en kn fn rn K) :
    Calls Try.prog 19 #[.agg #[.int .i64 de, .int .i64 qu, .int .i64 wi, .int .i64 ti, .int .i64 qa, .int .i64 bu, .int .i64 le, .int .i64 pb, .int .i64 pc, .int .i64 pj, .int .i64 pt, .int .i64 nw, .int .i64 la, .slice ea en ec, .slice ka kn kc, .int .i64 tu, .slice fa fn fc, .slice ra rn rc, .int .i64 tk, .int .i64 ac, .int .i64 dr]] w fun e w' => GEndI w w' de qu wi ti qa bu le pb pc pj pt nw la tu tk ac (sel (gokB de qu wi ti qa bu le pb pc pj pt nw la en kn tu fn rn tk ac dr E K F R) (dr + rn) dr) (sel (gokB de qu wi ti qa bu le pb pc pj pt nw la en kn tu fn rn tk ac dr E K F R) (goneAll E R) E) K F (sel (gokB de qu wi ti qa bu le pb pc pj pt nw la en kn tu fn rn tk ac dr E K F R) [] R) (sel (gokB de qu wi ti qa bu le pb pc pj pt nw la en kn tu fn rn tk ac dr E K F R) R []) e := by
  obtain rfl : E.length = en := h.ev.row.hlen
  obtain rfl : K.length = kn := h.lk.hlen
  obtain rfl : F.length = fn := h.lf.hlen
  obtain rfl : R.length = rn := h.lt.hlen
  obtain ⟨W0, hW0⟩ : ∃ W, W = (w.alloc (.cells #[.int .i64 de, .int .i64 qu, .int .i64 wi, .int .i64 ti, .int .i64 qa, .int .i64 bu, .int .i64 le, .int .i64 pb, .int .i64 pc, .int .i64 pj, .int .i64 pt, .int .i64 nw, .int .i64 la, .slice ea E.length ec, .slice ka K.length kc, .int .i64 tu, .slice fa F.length fc, .slice ra R.length rc, .int .i64 tk, .int .i64 ac, .int .i64 dr] 38)).alloc (.cells #[.int .i64 0, .int .i64 0, .int .i64 0, .int .i64 0, .int .i64 0, .int .i64 0, .int .i64 0, .int .i64 0, .int .i64 0, .int .i64 0, .int .i64 0, .int .i64 0, .int .i64 0, .slice none 0 0, .slice none 0 0, .int .i64 0, .slice none 0 0, .slice none 0 0, .int .i64 0, .int .i64 0, .int .i64 0] 38) := ⟨_, rfl⟩
  have hb01 := bOne w (.cells #[.int .i64 de, .int .i64 qu, .int .i64 wi, .int .i64 ti, .int .i64 qa, .int .i64 bu, .int .i64 le, .int .i64 pb, .int .i64 pc, .int .i64 pj, .int .i64 pt, .int .i64 nw, .int .i64 la, .slice ea E.length ec, .slice ka K.length kc, .int .i64 tu, .slice fa F.length fc, .slice ra R.length rc, .int .i64 tk, .int .i64 ac, .int .i64 dr] 38)
  have hb02 := bOne (w.alloc (.cells #[.int .i64 de, .int .i64 qu, .int .i64 wi, .int .i64 ti, .int .i64 qa, .int .i64 bu, .int .i64 le, .int .i64 pb, .int .i64 pc, .int .i64 pj, .int .i64 pt, .int .i64 nw, .int .i64 la, .slice ea E.length ec, .slice ka K.length kc, .int .i64 tu, .slice fa F.length fc, .slice ra R.length rc, .int .i64 tk, .int .i64 ac, .int .i64 dr] 38)) (.cells #[.int .i64 0, .int .i64 0, .int .i64 0, .int .i64 0, .int .i64 0, .int .i64 0, .int .i64 0, .int .i64 0, .int .i64 0, .int .i64 0, .int .i64 0, .int .i64 0, .int .i64 0, .slice none 0 0, .slice none 0 0, .int .i64 0, .slice none 0 0, .slice none 0 0, .int .i64 0, .int .i64 0, .int .i64 0] 38)
  have HA : Hid (Box W0 w.heap.size 38 [.int .i64 de, .int .i64 qu, .int .i64 wi, .int .i64 ti, .int .i64 qa, .int .i64 bu, .int .i64 le, .int .i64 pb, .int .i64 pc, .int .i64 pj, .int .i64 pt, .int .i64 nw, .int .i64 la, .slice ea E.length ec, .slice ka K.length kc, .int .i64 tu, .slice fa F.length fc, .slice ra R.length rc, .int .i64 tk, .int .i64 ac, .int .i64 dr]) := Lib.hid (by rw [hW0]; exact (Box.new w [.int .i64 de, .int .i64 qu, .int .i64 wi, .int .i64 ti, .int .i64 qa, .int .i64 bu, .int .i64 le, .int .i64 pb, .int .i64 pc, .int .i64 pj, .int .i64 pt, .int .i64 nw, .int .i64 la, .slice ea E.length ec, .slice ka K.length kc, .int .i64 tu, .slice fa F.length fc, .slice ra R.length rc, .int .i64 tk, .int .i64 ac, .int .i64 dr] 38).below hb02)
  have HR : Hid (Box W0 (w.heap.size + 1) 38 [.int .i64 0, .int .i64 0, .int .i64 0, .int .i64 0, .int .i64 0, .int .i64 0, .int .i64 0, .int .i64 0, .int .i64 0, .int .i64 0, .int .i64 0, .int .i64 0, .int .i64 0, .slice none 0 0, .slice none 0 0, .int .i64 0, .slice none 0 0, .slice none 0 0, .int .i64 0, .int .i64 0, .int .i64 0]) := Lib.hid (by
    rw [hW0]
    have := Box.new (w.alloc (.cells #[.int .i64 de, .int .i64 qu, .int .i64 wi, .int .i64 ti, .int .i64 qa, .int .i64 bu, .int .i64 le, .int .i64 pb, .int .i64 pc, .int .i64 pj, .int .i64 pt, .int .i64 nw, .int .i64 la, .slice ea E.length ec, .slice ka K.length kc, .int .i64 tu, .slice fa F.length fc, .slice ra R.length rc, .int .i64 tk, .int .i64 ac, .int .i64 dr] 38)) [.int .i64 0, .int .i64 0, .int .i64 0, .int .i64 0, .int .i64 0, .int .i64 0, .int .i64 0, .int .i64 0, .int .i64 0, .int .i64 0, .int .i64 0, .int .i64 0, .int .i64 0, .slice none 0 0, .slice none 0 0, .int .i64 0, .slice none 0 0, .slice none 0 0, .int .i64 0, .int .i64 0, .int .i64 0] 38
    simpa using this)
  have HL : Hid (Below w.heap.size w W0) := Lib.hid (by rw [hW0]; exact hb01.trans (hb02.mono (by simp)))
  have HSZ := Lib.hid (show w.heap.size + 2 ≤ W0.heap.size by rw [hW0]; simp)
  have HWE := Lib.hid hW0
  have HG := Lib.hid h
  have HSM := Lib.hid hs
  have HE := Lib.hid hE
  have HRW := Lib.hid hR
  obtain ⟨gk, hgk⟩ : ∃ x, x = gokB de qu wi ti qa bu le pb pc pj pt nw la E.length K.length tu F.length R.length tk ac dr E K F R := ⟨_, rfl⟩
  rw [← hgk]
  have HGK := Lib.hid hgk
  clear hW0 hb01 hb02 h hs hE hR hgk
  go_enter Try.func19, Try.ntmps19
  go_upto_region 1 with fail
  rw [← HWE.out]
  clear HWE
  obtain ⟨B, hB⟩ : ∃ B, B = W0.heap.size := ⟨_, rfl⟩
  have HB1 := Lib.hid (show w.heap.size + 2 ≤ B by rw [hB]; exact HSZ.out)
  go_wp2_with (first | (refine wpList_load_box rfl _ 38 rfl rfl HA.out _ Try.underlying38 sizeGate ?_) | fail)
  refine (copyGate_any _ de qu wi ti qa bu le pb pc pj pt nw la ea E.length ec ka K.length kc tu fa F.length fc ra R.length rc tk ac dr E K F R (HG.out.here HL.out) HSM.out).mono ?_
  rintro e w1 ⟨⟨ea1, ec1, ka1, kc1, fa1, fc1, ra1, rc1, vs, rfl, ho⟩, hb⟩
  rw [← hB] at ho
  have HO := Lib.hid ho
  have HBW := Lib.hid (show B ≤ w1.heap.size by rw [hB]; exact hb.size)
  replace HA := Lib.hid (HA.out.below hb)
  replace HR := Lib.hid (HR.out.below hb)
  replace HL := Lib.hid (low_after HL.out hb)
  clear hb ho hB HSZ
  obtain ⟨kb, hkb⟩ : ∃ k, k = w1.heap.size := ⟨_, rfl⟩
  go_upto_region 2 with (first | (refine wpList_store_box rfl _ _ 65 rfl rfl [.int .i64 de, .int .i64 qu, .int .i64 wi, .int .i64 ti, .int .i64 qa, .int .i64 bu, .int .i64 le, .int .i64 pb, .int .i64 pc, .int .i64 pj, .int .i64 pt, .int .i64 nw, .int .i64 la, .slice ea1 E.length ec1, .slice ka1 K.length kc1, .int .i64 tu, .slice fa1 F.length fc1, .slice ra1 R.length rc1, .int .i64 tk, .int .i64 ac, .int .i64 dr] rfl (Box.new _ [.int .i64 0, .int .i64 0, .int .i64 0, .int .i64 0, .int .i64 0, .int .i64 0, .int .i64 0, .int .i64 0, .int .i64 0, .int .i64 0, .int .i64 0, .int .i64 0, .int .i64 0, .slice none 0 0, .slice none 0 0, .int .i64 0, .slice none 0 0, .slice none 0 0, .int .i64 0, .int .i64 0, .int .i64 0] 65) sizeKeep rfl rfl ?_; intro V0 hXb hgV hlV; have HX := Lib.hid hXb; have HBV := Lib.hid (hlV w1.heap.size w1 (Nat.le_refl _) (bOne w1 _)); clear hXb hgV hlV) | fail)
  simp only [Act.put]
  rw [← hkb] at HX ⊢
  have HKB := Lib.hid (show B ≤ kb by rw [hkb]; exact HBW.out)
  clear hkb
  replace HA := Lib.hid (HA.out.below HBV.out)
  replace HR := Lib.hid (HR.out.below HBV.out)
  replace HL := Lib.hid (low_after HL.out HBV.out)
  replace HO := Lib.hid (HO.out.below HBV.out)
  replace HBW := Lib.hid (Nat.le_trans HBW.out HBV.out.size)
  clear HBV
  go_wp2_with (first | (refine wpList_load_box rfl _ 38 rfl rfl HA.out _ Try.underlying38 sizeGate ?_) | fail)
  refine (implGokB_any _ de qu wi ti qa bu le pb pc pj pt nw la ea E.length ec ka K.length kc tu fa F.length fc ra R.length rc tk ac dr E K F R HE.out HRW.out HSM.out.1 HSM.out.2.2.2.2 (HG.out.here HL.out)).mono ?_
  rintro e w2 ⟨rfl, hb⟩
  rw [← HGK.out]
  replace HA := Lib.hid (HA.out.below hb)
  replace HR := Lib.hid (HR.out.below hb)
  replace HX := Lib.hid (HX.out.below hb)
  replace HL := Lib.hid (low_after HL.out hb)
  replace HO := Lib.hid (HO.out.below hb)
  replace HBW := Lib.hid (Nat.le_trans HBW.out hb.size)
  clear hb
  cases gk with
  | false =>
    go_wp2_with (first | (refine wpList_load_box rfl _ 38 rfl rfl HX.out _ Try.underlying38 sizeGate ?_) | (refine wpList_store_box rfl _ _ 38 rfl rfl [.int .i64 de, .int .i64 qu, .int .i64 wi, .int .i64 ti, .int .i64 qa, .int .i64 bu, .int .i64 le, .int .i64 pb, .int .i64 pc, .int .i64 pj, .int .i64 pt, .int .i64 nw, .int .i64 la, .slice ea1 E.length ec1, .slice ka1 K.length kc1, .int .i64 tu, .slice fa1 F.length fc1, .slice ra1 R.length rc1, .int .i64 tk, .int .i64 ac, .int .i64 dr] rfl HR.out sizeGate rfl rfl ?_; intro V hXb hgV hlV) | fail)
    have ho2 := (HO.out.low hgV (by have := HB1.out; omega)).base (B' := w.heap.size) (by have := HB1.out; omega)
    exact bodyPost_ret (v := .tuple #[.agg #[.int .i64 de, .int .i64 qu, .int .i64 wi, .int .i64 ti, .int .i64 qa, .int .i64 bu, .int .i64 le, .int .i64 pb, .int .i64 pc, .int .i64 pj, .int .i64 pt, .int .i64 nw, .int .i64 la, .slice ea1 E.length ec1, .slice ka1 K.length kc1, .int .i64 tu, .slice fa1 F.length fc1, .slice ra1 R.length rc1, .int .i64 tk, .int .i64 ac, .int .i64 dr], .slice none 0 0]) (results_box2 _ Try.results19 rfl rfl hXb _ Try.underlying38 sizeGate) rfl ⟨⟨ea1, ec1, ka1, kc1, fa1, fc1, ra1, rc1, vs, none, 0, rfl, ho2, ho2.rows.more (r := inR (.slice none 0 0) []) (Lnk.IOwn.nil _ _) (fun k e => by cases e)⟩, hlV w.heap.size w (by omega) HL.out⟩
  | true =>
    have htot := gok_tot HGK.out.symm
    have hd0 := htot.1.1
    have hd1 := htot.1.2
    have hr20 := htot.2
    clear htot
    have c17 := HX.out.cell 17 _ rfl
    go_wp2_with fail
    clear c17
    refine (keepRemove_any w2 B B kb 65 [] de qu wi ti qa bu le pb pc pj pt nw la ea1 ec1 ka1 kc1 tu fa1 fc1 ra1 rc1 tk ac dr vs E K F R ra1 rc1 R HX.out rfl HKB.out HO.out HBW.out (inR_at.2 HO.out.ltO) HSM.out.1 HSM.out.2.2.2.2).mono ?_
    rintro e w3 ⟨rfl, hx, ho, hl⟩
    replace HA := Lib.hid (HA.out.low hl (by have := HB1.out; omega))
    replace HR := Lib.hid (HR.out.low hl (by have := HB1.out; omega))
    replace HL := Lib.hid (HL.out.trans (hl.mono (by have := HB1.out; omega)))
    replace HBW := Lib.hid (Nat.le_trans HBW.out hl.size)
    replace HX := Lib.hid (show Box w3 kb 65 [.int .i64 de, .int .i64 qu, .int .i64 wi, .int .i64 ti, .int .i64 qa, .int .i64 bu, .int .i64 le, .int .i64 pb, .int .i64 pc, .int .i64 pj, .int .i64 pt, .int .i64 nw, .int .i64 la, .slice ea1 (keepL R E).length ec1, .slice ka1 K.length kc1, .int .i64 tu, .slice fa1 F.length fc1, .slice ra1 R.length rc1, .int .i64 tk, .int .i64 ac, .int .i64 dr] from hx)
    replace HO := Lib.hid ho
    clear hx ho hl

    have d17 := HX.out.cell 17 _ rfl
    have f17 := HX.out.frozen 17
    go_upto_region 7 with fail
    clear d17 f17
    obtain ⟨w4, hV⟩ : ∃ V, V = w3.setCell ⟨kb, 17, none⟩ (.slice none 0 0) := ⟨_, rfl⟩
    rw [← hV]
    have hg : w3.grownBy w4 (some kb) := by rw [hV]; exact store_grown [.slice none 0 0] 17 _
    replace HO := Lib.hid (GOwn.offbox4 HO.out HX.out rfl hg)
    replace HX := Lib.hid (show Box w4 kb 65 [.int .i64 de, .int .i64 qu, .int .i64 wi, .int .i64 ti, .int .i64 qa, .int .i64 bu, .int .i64 le, .int .i64 pb, .int .i64 pc, .int .i64 pj, .int .i64 pt, .int .i64 nw, .int .i64 la, .slice ea1 (keepL R E).length ec1, .slice ka1 K.length kc1, .int .i64 tu, .slice fa1 F.length fc1, .slice none 0 0, .int .i64 tk, .int .i64 ac, .int .i64 dr] by rw [hV]; exact Box.store [.slice none 0 0] 17 _ _ HX.out)
    replace HR := Lib.hid (HR.out.grown hg (fun e => by injection e; have := HB1.out; have := HKB.out; omega))
    replace HL := Lib.hid (HL.out.grown hg HL.out.size (fun q e => by cases e; have := HB1.out; have := HKB.out; omega))
    clear hV hg
    have d20 := HX.out.cell 20 _ rfl
    have f20 := HX.out.frozen 20
    go_upto_region 8 with fail
    clear d20 f20
    obtain ⟨w5, hV⟩ : ∃ V, V = w4.setCell ⟨kb, 20, none⟩ (.int .i64 (dr + (R.length : Int))) := ⟨_, rfl⟩
    rw [← hV]
    have hg : w4.grownBy w5 (some kb) := by rw [hV]; exact store_grown [.int .i64 (dr + (R.length : Int))] 20 _
    replace HO := Lib.hid (GOwn.offbox4 HO.out HX.out rfl hg)
    replace HX := Lib.hid (show Box w5 kb 65 [.int .i64 de, .int .i64 qu, .int .i64 wi, .int .i64 ti, .int .i64 qa, .int .i64 bu, .int .i64 le, .int .i64 pb, .int .i64 pc, .int .i64 pj, .int .i64 pt, .int .i64 nw, .int .i64 la, .slice ea1 (keepL R E).length ec1, .slice ka1 K.length kc1, .int .i64 tu, .slice fa1 F.length fc1, .slice none 0 0, .int .i64 tk, .int .i64 ac, .int .i64 (dr + (R.length : Int))] by rw [hV]; exact Box.store [.int .i64 (dr + (R.length : Int))] 20 _ _ HX.out)
    replace HR := Lib.hid (HR.out.grown hg (fun e => by injection e; have := HB1.out; have := HKB.out; omega))
    replace HL := Lib.hid (HL.out.grown hg HL.out.size (fun q e => by cases e; have := HB1.out; have := HKB.out; omega))
    clear hV hg
    go_wp2_with (first | (refine wpList_load_box rfl _ 38 rfl rfl HX.out _ Try.underlying38 sizeGate ?_) | (refine wpList_store_box rfl _ _ 38 rfl rfl [.int .i64 de, .int .i64 qu, .int .i64 wi, .int .i64 ti, .int .i64 qa, .int .i64 bu, .int .i64 le, .int .i64 pb, .int .i64 pc, .int .i64 pj, .int .i64 pt, .int .i64 nw, .int .i64 la, .slice ea1 (keepL R E).length ec1, .slice ka1 K.length kc1, .int .i64 tu, .slice fa1 F.length fc1, .slice none 0 0, .int .i64 tk, .int .i64 ac, .int .i64 (dr + (R.length : Int))] rfl HR.out sizeGate rfl rfl ?_; intro V hXb hgV hlV) | fail)
    have ho2 := (HO.out.low hgV (by have := HB1.out; omega)).base (B' := w.heap.size) (by have := HB1.out; omega)
    have ho3 := ho2.swapLt (ho2.rows.more (r := inR (.slice none 0 0) []) (Lnk.IOwn.nil _ _) (fun k e => by cases e))
    rw [← goneAll_eq] at ho3 ⊢
    exact bodyPost_ret (v := .tuple #[.agg #[.int .i64 de, .int .i64 qu, .int .i64 wi, .int .i64 ti, .int .i64 qa, .int .i64 bu, .int .i64 le, .int .i64 pb, .int .i64 pc, .int .i64 pj, .int .i64 pt, .int .i64 nw, .int .i64 la, .slice ea1 (keepL R E).length ec1, .slice ka1 K.length kc1, .int .i64 tu, .slice fa1 F.length fc1, .slice none 0 0, .int .i64 tk, .int .i64 ac, .int .i64 (dr + (R.length : Int))], .slice ra1 R.length rc1]) (results_box2 _ Try.results19 rfl rfl hXb _ Try.underlying38 sizeGate) rfl ⟨⟨ea1, ec1, ka1, kc1, fa1, fc1, none, 0, vs, ra1, rc1, by rw [sel_yes, sel_yes, sel_yes, sel_yes, goneAll_eq]; rfl, ho3.1, ho3.2⟩, hlV w.heap.size w (by omega) HL.out⟩

end Go.Proofs.Ytlcllbdalabciaa.Gat
