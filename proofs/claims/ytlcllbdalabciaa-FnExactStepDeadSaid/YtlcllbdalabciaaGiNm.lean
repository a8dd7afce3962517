/-
  afterStep.
-/
import Derived.Test.YtlcllbdalabciaaGiHm
namespace Go.Proofs.Ytlcllbdalabciaa.Gat
open Go.RowKit
open Lnk (bOne bAfter IOwn IIs YOwn YIs below_keep below_drew' bcell low_after low_alloc grown_of_below)
set_option linter.unusedVariables false
set_option linter.unusedSimpArgs false

theorem sizeTk : (Try.prog.info? 76).map (·.size) = some 23 := by kernel_rfl

/-- a ticker's end -/
def TEnd (w w' : World) (de qu wi ti qa bu le pb pc pj pt : Int) (nw la tu tk ac dr : Int) (E : List Ev) (K : List Lk) (F R : List Int) (e : Ending) : Prop :=
  (∃ ea1 ec1 ka1 kc1 fa1 fc1 ra1 rc1 vs, e = .returned (.agg #[.int .i64 de, .int .i64 qu, .int .i64 wi, .int .i64 ti, .int .i64 qa, .int .i64 bu, .int .i64 le, .int .i64 pb, .int .i64 pc, .int .i64 pj, .int .i64 pt, .int .i64 nw, .int .i64 la, .slice ea1 E.length ec1, .slice ka1 K.length kc1, .int .i64 tu, .slice fa1 F.length fc1, .slice ra1 R.length rc1, .int .i64 tk, .int .i64 ac, .int .i64 dr, .int .i64 0, .slice none 0 0]) ∧ GOwn w.heap.size w' (.slice ea1 E.length ec1) (.slice ka1 K.length kc1) (.slice fa1 F.length fc1) (.slice ra1 R.length rc1) vs E K F R) ∧ Below w.heap.size w w'

set_option maxRecDepth 100000 in
set_option maxHeartbeats 8000000 in
theorem afterStep_any (gf : Nat) (E' : List Ev) (K' : List Lk) (R' : List Int) (w : World) (de qu wi ti qa bu le pb pc pj pt nw la : Int) (ea : Option Addr) (en ec : Nat) (ka : Option Addr) (kn kc : Nat) (tu : Int) (fa : Option Addr) (fn fc : Nat) (ra : Option Addr) (rn rc : Nat) (tk ac dr : Int) (E : List Ev) (K : List Lk) (F R : List Int) (hE : ∀ e ∈ E, (Lit.int .i64 e.i).wf = true) (hR : ∀ x ∈ R, (Lit.int .i64 x).wf = true) (h : GIs w.heap.size w ea en ka kn fa fn ra rn E K F R) (hs : Small en kn fn rn K)
    (heg : ∀ (args : Array Value) (w1 : World), (callFunc gf args).run Try.prog w1 = .ok (.enter gf args) w1)
    (hcall : ∀ (w2 : World) (B kb : Nat) (ea1 : Option Addr) (ec1 : Nat) (ka1 : Option Addr) (kc1 : Nat) (fa1 : Option Addr) (fc1 : Nat) (ra1 : Option Addr) (rc1 : Nat) (vs : List Value), Box w2 kb 76 ([.int .i64 de, .int .i64 qu, .int .i64 wi, .int .i64 ti, .int .i64 qa, .int .i64 bu, .int .i64 le, .int .i64 pb, .int .i64 pc, .int .i64 pj, .int .i64 pt, .int .i64 nw, .int .i64 la, .slice ea1 E.length ec1, .slice ka1 K.length kc1, .int .i64 tu, .slice fa1 F.length fc1, .slice ra1 R.length rc1, .int .i64 tk, .int .i64 ac, .int .i64 dr] ++ [.int .i64 0, .slice none 0 0]) → B ≤ kb → GOwn B w2 (.slice ea1 E.length ec1) (.slice ka1 K.length kc1) (.slice fa1 F.length fc1) (.slice ra1 R.length rc1) vs E K F R → B ≤ w2.heap.size → gokB de qu wi ti qa bu le pb pc pj pt nw la E.length K.length tu F.length R.length tk ac dr E K F R = true → Calls Try.prog gf #[.pointer (some ⟨kb, 0, none⟩)] w2 fun e w' => ∃ ra2 rc2 vs', e = .returned (.tuple #[]) ∧ Box w' kb 76 ([.int .i64 de, .int .i64 qu, .int .i64 wi, .int .i64 ti, .int .i64 qa, .int .i64 bu, .int .i64 le, .int .i64 pb, .int .i64 pc, .int .i64 pj, .int .i64 pt, .int .i64 nw, .int .i64 la, .slice ea1 E'.length ec1, .slice ka1 K'.length kc1, .int .i64 tu, .slice fa1 F.length fc1, .slice ra2 R'.length rc2, .int .i64 tk, .int .i64 ac, .int .i64 dr] ++ [.int .i64 0, .slice none 0 0]) ∧ GOwn B w' (.slice ea1 E'.length ec1) (.slice ka1 K'.length kc1) (.slice fa1 F.length fc1) (.slice ra2 R'.length rc2) vs' E' K' F R' ∧ Below B w2 w') :
    Calls Try.prog 57 #[.agg #[.int .i64 de, .int .i64 qu, .int .i64 wi, .int .i64 ti, .int .i64 qa, .int .i64 bu, .int .i64 le, .int .i64 pb, .int .i64 pc, .int .i64 pj, .int .i64 pt, .int .i64 nw, .int .i64 la, .slice ea en ec, .slice ka kn kc, .int .i64 tu, .slice fa fn fc, .slice ra rn rc, .int .i64 tk, .int .i64 ac, .int .i64 dr], .int .i64 0, .func (.func gf) #[] #[]] w fun e w' => TEnd w w' de qu wi ti qa bu le pb pc pj pt nw la tu tk ac dr (sel (gokB de qu wi ti qa bu le pb pc pj pt nw la en kn tu fn rn tk ac dr E K F R) E' E) (sel (gokB de qu wi ti qa bu le pb pc pj pt nw la en kn tu fn rn tk ac dr E K F R) K' K) F (sel (gokB de qu wi ti qa bu le pb pc pj pt nw la en kn tu fn rn tk ac dr E K F R) R' R) e := by
  obtain rfl : E.length = en := h.ev.row.hlen
  obtain rfl : K.length = kn := h.lk.hlen
  obtain rfl : F.length = fn := h.lf.hlen
  obtain rfl : R.length = rn := h.lt.hlen
  obtain ⟨W0, hW0⟩ : ∃ W, W = (w.alloc (.cells #[.int .i64 de, .int .i64 qu, .int .i64 wi, .int .i64 ti, .int .i64 qa, .int .i64 bu, .int .i64 le, .int .i64 pb, .int .i64 pc, .int .i64 pj, .int .i64 pt, .int .i64 nw, .int .i64 la, .slice ea E.length ec, .slice ka K.length kc, .int .i64 tu, .slice fa F.length fc, .slice ra R.length rc, .int .i64 tk, .int .i64 ac, .int .i64 dr] 38)).alloc (.cells #[.int .i64 0, .int .i64 0, .int .i64 0, .int .i64 0, .int .i64 0, .int .i64 0, .int .i64 0, .int .i64 0, .int .i64 0, .int .i64 0, .int .i64 0, .int .i64 0, .int .i64 0, .slice none 0 0, .slice none 0 0, .int .i64 0, .slice none 0 0, .slice none 0 0, .int .i64 0, .int .i64 0, .int .i64 0, .int .i64 0, .slice none 0 0] 76) := ⟨_, rfl⟩
  have hb01 := bOne w (.cells #[.int .i64 de, .int .i64 qu, .int .i64 wi, .int .i64 ti, .int .i64 qa, .int .i64 bu, .int .i64 le, .int .i64 pb, .int .i64 pc, .int .i64 pj, .int .i64 pt, .int .i64 nw, .int .i64 la, .slice ea E.length ec, .slice ka K.length kc, .int .i64 tu, .slice fa F.length fc, .slice ra R.length rc, .int .i64 tk, .int .i64 ac, .int .i64 dr] 38)
  have hb02 := bOne (w.alloc (.cells #[.int .i64 de, .int .i64 qu, .int .i64 wi, .int .i64 ti, .int .i64 qa, .int .i64 bu, .int .i64 le, .int .i64 pb, .int .i64 pc, .int .i64 pj, .int .i64 pt, .int .i64 nw, .int .i64 la, .slice ea E.length ec, .slice ka K.length kc, .int .i64 tu, .slice fa F.length fc, .slice ra R.length rc, .int .i64 tk, .int .i64 ac, .int .i64 dr] 38)) (.cells #[.int .i64 0, .int .i64 0, .int .i64 0, .int .i64 0, .int .i64 0, .int .i64 0, .int .i64 0, .int .i64 0, .int .i64 0, .int .i64 0, .int .i64 0, .int .i64 0, .int .i64 0, .slice none 0 0, .slice none 0 0, .int .i64 0, .slice none 0 0, .slice none 0 0, .int .i64 0, .int .i64 0, .int .i64 0, .int .i64 0, .slice none 0 0] 76)
  have HA : Hid (Box W0 w.heap.size 38 [.int .i64 de, .int .i64 qu, .int .i64 wi, .int .i64 ti, .int .i64 qa, .int .i64 bu, .int .i64 le, .int .i64 pb, .int .i64 pc, .int .i64 pj, .int .i64 pt, .int .i64 nw, .int .i64 la, .slice ea E.length ec, .slice ka K.length kc, .int .i64 tu, .slice fa F.length fc, .slice ra R.length rc, .int .i64 tk, .int .i64 ac, .int .i64 dr]) := Lib.hid (by rw [hW0]; exact (Box.new w [.int .i64 de, .int .i64 qu, .int .i64 wi, .int .i64 ti, .int .i64 qa, .int .i64 bu, .int .i64 le, .int .i64 pb, .int .i64 pc, .int .i64 pj, .int .i64 pt, .int .i64 nw, .int .i64 la, .slice ea E.length ec, .slice ka K.length kc, .int .i64 tu, .slice fa F.length fc, .slice ra R.length rc, .int .i64 tk, .int .i64 ac, .int .i64 dr] 38).below hb02)
  have HR : Hid (Box W0 (w.heap.size + 1) 76 [.int .i64 0, .int .i64 0, .int .i64 0, .int .i64 0, .int .i64 0, .int .i64 0, .int .i64 0, .int .i64 0, .int .i64 0, .int .i64 0, .int .i64 0, .int .i64 0, .int .i64 0, .slice none 0 0, .slice none 0 0, .int .i64 0, .slice none 0 0, .slice none 0 0, .int .i64 0, .int .i64 0, .int .i64 0, .int .i64 0, .slice none 0 0]) := Lib.hid (by
    rw [hW0]
    have := Box.new (w.alloc (.cells #[.int .i64 de, .int .i64 qu, .int .i64 wi, .int .i64 ti, .int .i64 qa, .int .i64 bu, .int .i64 le, .int .i64 pb, .int .i64 pc, .int .i64 pj, .int .i64 pt, .int .i64 nw, .int .i64 la, .slice ea E.length ec, .slice ka K.length kc, .int .i64 tu, .slice fa F.length fc, .slice ra R.length rc, .int .i64 tk, .int .i64 ac, .int .i64 dr] 38)) [.int .i64 0, .int .i64 0, .int .i64 0, .int .i64 0, .int .i64 0, .int .i64 0, .int .i64 0, .int .i64 0, .int .i64 0, .int .i64 0, .int .i64 0, .int .i64 0, .int .i64 0, .slice none 0 0, .slice none 0 0, .int .i64 0, .slice none 0 0, .slice none 0 0, .int .i64 0, .int .i64 0, .int .i64 0, .int .i64 0, .slice none 0 0] 76
    simpa using this)
  have HL : Hid (Below w.heap.size w W0) := Lib.hid (by rw [hW0]; exact hb01.trans (hb02.mono (by simp)))
  have HSZ := Lib.hid (show w.heap.size + 2 ≤ W0.heap.size by rw [hW0]; simp)
  have HWE := Lib.hid hW0
  have HG := Lib.hid h
  have HSM := Lib.hid hs
  have HE := Lib.hid hE
  have HRW := Lib.hid hR
  have HC := Lib.hid hcall
  obtain ⟨gk, hgk⟩ : ∃ x, x = gokB de qu wi ti qa bu le pb pc pj pt nw la E.length K.length tu F.length R.length tk ac dr E K F R := ⟨_, rfl⟩
  rw [← hgk]
  have HGK := Lib.hid hgk
  clear hW0 hb01 hb02 h hs hE hR hgk hcall
  go_enter Try.func57, Try.ntmps57
  go_upto_region 1 with fail
  rw [← HWE.out]
  clear HWE
  obtain ⟨B, hB⟩ : ∃ B, B = W0.heap.size := ⟨_, rfl⟩
  have HB1 := Lib.hid (show w.heap.size + 2 ≤ B by rw [hB]; exact HSZ.out)
  go_wp2_with (first | (refine wpList_load_box rfl _ 38 rfl rfl HA.out _ Try.underlying38 sizeGate ?_) | fail)
  refine (copyGate_any _ de qu wi ti qa bu le pb pc pj pt nw la ea E.length ec ka K.length kc tu fa F.length fc ra R.length rc tk ac dr E K F R (HG.out.here HL.out) HSM.out).mono ?_
  rintro e w1 ⟨⟨ea1, ec1, ka1, kc1, fa1, fc1, ra1, rc1, vs, rfl, ho⟩, hb⟩
  rw [← hB] at ho
  have HO := Lib.hid ho
  have HBW := Lib.hid (show B ≤ w1.heap.size by rw [hB]; exact hb.size)
  replace HA := Lib.hid (HA.out.below hb)
  replace HR := Lib.hid (HR.out.below hb)
  replace HL := Lib.hid (low_after HL.out hb)
  clear hb ho hB HSZ
  obtain ⟨kb, hkb⟩ : ∃ k, k = w1.heap.size := ⟨_, rfl⟩
  go_upto_region 4 with (first | (refine wpList_store_box rfl _ _ 76 rfl rfl [.int .i64 de, .int .i64 qu, .int .i64 wi, .int .i64 ti, .int .i64 qa, .int .i64 bu, .int .i64 le, .int .i64 pb, .int .i64 pc, .int .i64 pj, .int .i64 pt, .int .i64 nw, .int .i64 la, .slice ea1 E.length ec1, .slice ka1 K.length kc1, .int .i64 tu, .slice fa1 F.length fc1, .slice ra1 R.length rc1, .int .i64 tk, .int .i64 ac, .int .i64 dr, .int .i64 0, .slice none 0 0] rfl (Box.new _ [.int .i64 0, .int .i64 0, .int .i64 0, .int .i64 0, .int .i64 0, .int .i64 0, .int .i64 0, .int .i64 0, .int .i64 0, .int .i64 0, .int .i64 0, .int .i64 0, .int .i64 0, .slice none 0 0, .slice none 0 0, .int .i64 0, .slice none 0 0, .slice none 0 0, .int .i64 0, .int .i64 0, .int .i64 0, .int .i64 0, .slice none 0 0] 76) sizeTk rfl rfl ?_; intro V0 hXb hgV hlV; have HX := Lib.hid hXb; have HBV := Lib.hid (hlV w1.heap.size w1 (Nat.le_refl _) (bOne w1 _)); clear hXb hgV hlV) | fail)
  simp only [Act.put]
  rw [← hkb] at HX ⊢
  have HKB := Lib.hid (show B ≤ kb by rw [hkb]; exact HBW.out)
  clear hkb
  replace HA := Lib.hid (HA.out.below HBV.out)
  replace HR := Lib.hid (HR.out.below HBV.out)
  replace HL := Lib.hid (low_after HL.out HBV.out)
  replace HO := Lib.hid (HO.out.below HBV.out)
  replace HBW := Lib.hid (Nat.le_trans HBW.out HBV.out.size)
  clear HBV
  go_wp2_with (first | (refine wpList_load_box rfl _ 38 rfl rfl HA.out _ Try.underlying38 sizeGate ?_) | fail)
  refine (implGokB_any _ de qu wi ti qa bu le pb pc pj pt nw la ea E.length ec ka K.length kc tu fa F.length fc ra R.length rc tk ac dr E K F R HE.out HRW.out HSM.out.1 HSM.out.2.2.2.2 (HG.out.here HL.out)).mono ?_
  rintro e w2 ⟨rfl, hb⟩
  rw [← HGK.out]
  replace HA := Lib.hid (HA.out.below hb)
  replace HR := Lib.hid (HR.out.below hb)
  replace HX := Lib.hid (HX.out.below hb)
  replace HL := Lib.hid (low_after HL.out hb)
  replace HO := Lib.hid (HO.out.below hb)
  replace HBW := Lib.hid (Nat.le_trans HBW.out hb.size)
  clear hb
  cases gk with
  | false =>
    clear heg
    go_wp2_with (first | (refine wpList_load_box rfl _ 76 rfl rfl HX.out _ Try.underlying76 sizeTk ?_) | (refine wpList_store_box rfl _ _ 76 rfl rfl [.int .i64 de, .int .i64 qu, .int .i64 wi, .int .i64 ti, .int .i64 qa, .int .i64 bu, .int .i64 le, .int .i64 pb, .int .i64 pc, .int .i64 pj, .int .i64 pt, .int .i64 nw, .int .i64 la, .slice ea1 E.length ec1, .slice ka1 K.length kc1, .int .i64 tu, .slice fa1 F.length fc1, .slice ra1 R.length rc1, .int .i64 tk, .int .i64 ac, .int .i64 dr, .int .i64 0, .slice none 0 0] rfl HR.out sizeTk rfl rfl ?_; intro V hXb hgV hlV) | fail)
    exact bodyPost_ret (v := .agg #[.int .i64 de, .int .i64 qu, .int .i64 wi, .int .i64 ti, .int .i64 qa, .int .i64 bu, .int .i64 le, .int .i64 pb, .int .i64 pc, .int .i64 pj, .int .i64 pt, .int .i64 nw, .int .i64 la, .slice ea1 E.length ec1, .slice ka1 K.length kc1, .int .i64 tu, .slice fa1 F.length fc1, .slice ra1 R.length rc1, .int .i64 tk, .int .i64 ac, .int .i64 dr, .int .i64 0, .slice none 0 0]) (results_box _ Try.results57 rfl hXb _ Try.underlying76 sizeTk) rfl ⟨⟨ea1, ec1, ka1, kc1, fa1, fc1, ra1, rc1, vs, rfl, (HO.out.low hgV (by have := HB1.out; omega)).base (by have := HB1.out; omega)⟩, hlV w.heap.size w (by omega) HL.out⟩
  | true =>
    go_wp2_with fail
    clear heg
    refine (HC.out w2 B kb ea1 ec1 ka1 kc1 fa1 fc1 ra1 rc1 vs HX.out HKB.out HO.out HBW.out HGK.out.symm).mono ?_
    rintro e w3 ⟨ra2, rc2, vs', rfl, hx, ho, hl⟩
    replace HA := Lib.hid (HA.out.low hl (by have := HB1.out; omega))
    replace HR := Lib.hid (HR.out.low hl (by have := HB1.out; omega))
    replace HL := Lib.hid (HL.out.trans (hl.mono (by have := HB1.out; omega)))
    replace HX := Lib.hid (show Box w3 kb 76 [.int .i64 de, .int .i64 qu, .int .i64 wi, .int .i64 ti, .int .i64 qa, .int .i64 bu, .int .i64 le, .int .i64 pb, .int .i64 pc, .int .i64 pj, .int .i64 pt, .int .i64 nw, .int .i64 la, .slice ea1 E'.length ec1, .slice ka1 K'.length kc1, .int .i64 tu, .slice fa1 F.length fc1, .slice ra2 R'.length rc2, .int .i64 tk, .int .i64 ac, .int .i64 dr, .int .i64 0, .slice none 0 0] from hx)
    replace HO := Lib.hid ho
    clear hx ho hl
    go_wp2_with (first | (refine wpList_load_box rfl _ 76 rfl rfl HX.out _ Try.underlying76 sizeTk ?_) | (refine wpList_store_box rfl _ _ 76 rfl rfl [.int .i64 de, .int .i64 qu, .int .i64 wi, .int .i64 ti, .int .i64 qa, .int .i64 bu, .int .i64 le, .int .i64 pb, .int .i64 pc, .int .i64 pj, .int .i64 pt, .int .i64 nw, .int .i64 la, .slice ea1 E'.length ec1, .slice ka1 K'.length kc1, .int .i64 tu, .slice fa1 F.length fc1, .slice ra2 R'.length rc2, .int .i64 tk, .int .i64 ac, .int .i64 dr, .int .i64 0, .slice none 0 0] rfl HR.out sizeTk rfl rfl ?_; intro V hXb hgV hlV) | fail)
    exact bodyPost_ret (v := .agg #[.int .i64 de, .int .i64 qu, .int .i64 wi, .int .i64 ti, .int .i64 qa, .int .i64 bu, .int .i64 le, .int .i64 pb, .int .i64 pc, .int .i64 pj, .int .i64 pt, .int .i64 nw, .int .i64 la, .slice ea1 E'.length ec1, .slice ka1 K'.length kc1, .int .i64 tu, .slice fa1 F.length fc1, .slice ra2 R'.length rc2, .int .i64 tk, .int .i64 ac, .int .i64 dr, .int .i64 0, .slice none 0 0]) (results_box _ Try.results57 rfl hXb _ Try.underlying76 sizeTk) rfl ⟨⟨ea1, ec1, ka1, kc1, fa1, fc1, ra2, rc2, vs', rfl, (HO.out.low hgV (by have := HB1.out; omega)).base (by have := HB1.out; omega)⟩, hlV w.heap.size w (by omega) HL.out⟩

end Go.Proofs.Ytlcllbdalabciaa.Gat
