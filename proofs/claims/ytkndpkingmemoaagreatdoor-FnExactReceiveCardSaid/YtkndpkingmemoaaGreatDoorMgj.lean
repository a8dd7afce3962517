/-
  The specification's Connect and Disconnect.
  Plain facts on the decimal text of a number. No Go in sight.
  Rows of texts, and the marks that the exact laws write into them. No program in sight.
  The walks of the exact laws' marks: a mark's text, a row marked, a row held against its marks, two rows held against each other.
  Marks in rows of messages: written, and read again.
  Marks of messages, read again.
-/
import Derived.Test.YtkndpkingmemoaaGreatDoorMge
import Derived.Test.YtkndpkingmemoaaGreatDoorMgf
import Derived.Test.YtkndpkingmemoaaGreatDoorMgi
import Derived.Below
import Derived.Lib.ItoaNum
import Derived.Lib.ItoaMem
import Derived.Lib.Strings
import Derived.RangeFuncBox
import Derived.Test.YtkndpkingmemoaaGreatDoorProg
import Derived.WalkLawsBesides
import Derived.Deep.QuietTactic
import Derived.BigQuiet
import Derived.Deep.RegionHeld3
import Derived.Test.YtkndpkingmemoaaGreatDoorMgd
import Derived.Deep.DeepCutAuto
namespace Go.Proofs.YtkndpkingmemoaaGreatDoor.Gat
open Go.RowKit
open Lnk (bOne bAfter IOwn IIs YOwn YIs below_keep below_drew' bcell low_after low_alloc grown_of_below joU joE joS joL joI leU leL leI)
set_option linter.unusedVariables false
set_option linter.unusedSimpArgs false

/-- is a gate right, as a Bool -/
noncomputable def gokB (de qu wi ti qa bu le pb pc pj pt nw la : Int) (en kn : Nat) (tu : Int) (fn rn : Nat) (tk ac dr : Int) (E : List Ev) (K : List Lk) (F R : List Int) : Bool := @decide (specP de qu wi ti qa bu le pb pc pj pt nw la en kn tu fn rn tk ac dr E K F R) (Classical.propDecidable _)
theorem gokB_of {x : Bool} {de qu wi ti qa bu le pb pc pj pt nw la : Int} {en kn : Nat} {tu : Int} {fn rn : Nat} {tk ac dr : Int} {E : List Ev} {K : List Lk} {F R : List Int} (h : x = true ↔ specP de qu wi ti qa bu le pb pc pj pt nw la en kn tu fn rn tk ac dr E K F R) : gokB de qu wi ti qa bu le pb pc pj pt nw la en kn tu fn rn tk ac dr E K F R = x := by
  unfold gokB
  cases x with
  | true => exact @decide_eq_true _ (Classical.propDecidable _) (h.1 rfl)
  | false => exact @decide_eq_false _ (Classical.propDecidable _) (fun hp => by have := h.2 hp; cases this)
theorem gokB_true {de qu wi ti qa bu le pb pc pj pt nw la : Int} {en kn : Nat} {tu : Int} {fn rn : Nat} {tk ac dr : Int} {E : List Ev} {K : List Lk} {F R : List Int} (h : gokB de qu wi ti qa bu le pb pc pj pt nw la en kn tu fn rn tk ac dr E K F R = true) : specP de qu wi ti qa bu le pb pc pj pt nw la en kn tu fn rn tk ac dr E K F R := @of_decide_eq_true _ (Classical.propDecidable _) h
noncomputable def joinK (k : Lk) : Lk := ⟨joU k.up k.ep k.sq k.l, joE k.up k.ep k.sq k.l, joS k.up k.ep k.sq k.l, joL k.up k.ep k.sq k.l⟩
noncomputable def joinI (k : Lk) : List Int := joI k.up k.ep k.sq k.l
theorem joinI_len (k : Lk) : (joinI k).length ≤ k.l.length := by
  unfold joinI joI
  split
  · simp [Lnk.idsL]
  · simp
/-- the links, one of which is changed; the messages, those of its ids back -/
def conK (J : Lk → Lk) (ok : Bool) (K : List Lk) (d : Int) : List Lk := if ok then K.set (d - 1).toNat (J (K.getD (d - 1).toNat lk0)) else K
def conE (I : Lk → List Int) (ok : Bool) (K : List Lk) (E : List Ev) (d : Int) : List Ev := if ok then backE E (I (K.getD (d - 1).toNat lk0)) else E
theorem conK_at {J : Lk → Lk} {K : List Lk} {d : Int} {m : Nat} {k : Lk} (hm : m < K.length) (hd : d = (m : Int) + 1) (hk : K[m] = k) : conK J true K d = K.set m (J k) := by
  have e : (d - 1).toNat = m := by omega
  unfold conK
  rw [if_pos rfl, e, List.getD_eq_getElem?_getD, List.getElem?_eq_getElem hm, hk]
  rfl
theorem conE_at {I : Lk → List Int} {K : List Lk} {E : List Ev} {d : Int} {m : Nat} {k : Lk} (hm : m < K.length) (hd : d = (m : Int) + 1) (hk : K[m] = k) : conE I true K E d = backE E (I k) := by
  have e : (d - 1).toNat = m := by omega
  unfold conE
  rw [if_pos rfl, e, List.getD_eq_getElem?_getD, List.getElem?_eq_getElem hm, hk]
  rfl
theorem ne_fi : (95 : TypeId) ≠ 3 := by decide
theorem ne_il : (3 : TypeId) ≠ 82 := by decide
theorem ne_ie : (3 : TypeId) ≠ 39 := by decide
theorem pairApart {B : Nat} {w : World} {r s : Rw} (h : r.At B w) (h' : s.At B w) (hne : r.E ≠ s.E) : Rws B w [r, s] :=
  ⟨fun t ht => by
    rcases List.mem_cons.1 ht with rfl | ht
    · exact h
    · rw [List.mem_singleton.1 ht]; exact h', by
    refine List.pairwise_cons.2 ⟨fun t ht => ?_, List.pairwise_singleton _ _⟩
    rw [List.mem_singleton.1 ht]
    exact h.apart h' hne⟩
theorem slice_apart {u : Value} {a : Option Addr} {n c : Nat} (h : Apart (.slice a n c) u) : ∀ b off, a = some ⟨b, off, none⟩ → some b ≠ u.ownBlock := by
  rintro b off rfl
  rcases h with h | h
  · simp [Value.ownBlock] at h
  · exact h

set_option maxRecDepth 100000 in
set_option maxHeartbeats 8000000 in
theorem specConn_any (w : World) (de qu wi ti qa bu le pb pc pj pt nw la : Int) (ea : Option Addr) (en ec : Nat) (ka : Option Addr) (kn kc : Nat) (tu : Int) (fa : Option Addr) (fn fc : Nat) (ra : Option Addr) (rn rc : Nat) (tk ac dr : Int) (E : List Ev) (K : List Lk) (F R : List Int) (d : Int) (h : GIs w.heap.size w ea en ka kn fa fn ra rn E K F R) (hs : Small en kn fn rn K) :
    Calls Tryz.prog 21 #[.agg #[.int .i64 de, .int .i64 qu, .int .i64 wi, .int .i64 ti, .int .i64 qa, .int .i64 bu, .int .i64 le, .int .i64 pb, .int .i64 pc, .int .i64 pj, .int .i64 pt, .int .i64 nw, .int .i64 la, .slice ea en ec, .slice ka kn kc, .int .i64 tu, .slice fa fn fc, .slice ra rn rc, .int .i64 tk, .int .i64 ac, .int .i64 dr], .int .i64 d] w fun e w' => GEnd w w' de qu wi ti qa bu le pb pc pj pt nw la tu tk ac dr (conE joinI (gokB de qu wi ti qa bu le pb pc pj pt nw la en kn tu fn rn tk ac dr E K F R && inB 1 de d) K E d) (conK joinK (gokB de qu wi ti qa bu le pb pc pj pt nw la en kn tu fn rn tk ac dr E K F R && inB 1 de d) K d) F R e := by
  obtain ⟨W0, hW0⟩ : ∃ W, W = (w.alloc (.cells #[.int .i64 de, .int .i64 qu, .int .i64 wi, .int .i64 ti, .int .i64 qa, .int .i64 bu, .int .i64 le, .int .i64 pb, .int .i64 pc, .int .i64 pj, .int .i64 pt, .int .i64 nw, .int .i64 la, .slice ea en ec, .slice ka kn kc, .int .i64 tu, .slice fa fn fc, .slice ra rn rc, .int .i64 tk, .int .i64 ac, .int .i64 dr] 32)).alloc (.cells #[.int .i64 0, .int .i64 0, .int .i64 0, .int .i64 0, .int .i64 0, .int .i64 0, .int .i64 0, .int .i64 0, .int .i64 0, .int .i64 0, .int .i64 0, .int .i64 0, .int .i64 0, .slice none 0 0, .slice none 0 0, .int .i64 0, .slice none 0 0, .slice none 0 0, .int .i64 0, .int .i64 0, .int .i64 0] 32) := ⟨_, rfl⟩
  have hb01 := bOne w (.cells #[.int .i64 de, .int .i64 qu, .int .i64 wi, .int .i64 ti, .int .i64 qa, .int .i64 bu, .int .i64 le, .int .i64 pb, .int .i64 pc, .int .i64 pj, .int .i64 pt, .int .i64 nw, .int .i64 la, .slice ea en ec, .slice ka kn kc, .int .i64 tu, .slice fa fn fc, .slice ra rn rc, .int .i64 tk, .int .i64 ac, .int .i64 dr] 32)
  have hb02 := bOne (w.alloc (.cells #[.int .i64 de, .int .i64 qu, .int .i64 wi, .int .i64 ti, .int .i64 qa, .int .i64 bu, .int .i64 le, .int .i64 pb, .int .i64 pc, .int .i64 pj, .int .i64 pt, .int .i64 nw, .int .i64 la, .slice ea en ec, .slice ka kn kc, .int .i64 tu, .slice fa fn fc, .slice ra rn rc, .int .i64 tk, .int .i64 ac, .int .i64 dr] 32)) (.cells #[.int .i64 0, .int .i64 0, .int .i64 0, .int .i64 0, .int .i64 0, .int .i64 0, .int .i64 0, .int .i64 0, .int .i64 0, .int .i64 0, .int .i64 0, .int .i64 0, .int .i64 0, .slice none 0 0, .slice none 0 0, .int .i64 0, .slice none 0 0, .slice none 0 0, .int .i64 0, .int .i64 0, .int .i64 0] 32)
  have HA : Hid (Box W0 w.heap.size 32 [.int .i64 de, .int .i64 qu, .int .i64 wi, .int .i64 ti, .int .i64 qa, .int .i64 bu, .int .i64 le, .int .i64 pb, .int .i64 pc, .int .i64 pj, .int .i64 pt, .int .i64 nw, .int .i64 la, .slice ea en ec, .slice ka kn kc, .int .i64 tu, .slice fa fn fc, .slice ra rn rc, .int .i64 tk, .int .i64 ac, .int .i64 dr]) := Lib.hid (by rw [hW0]; exact (Box.new w [.int .i64 de, .int .i64 qu, .int .i64 wi, .int .i64 ti, .int .i64 qa, .int .i64 bu, .int .i64 le, .int .i64 pb, .int .i64 pc, .int .i64 pj, .int .i64 pt, .int .i64 nw, .int .i64 la, .slice ea en ec, .slice ka kn kc, .int .i64 tu, .slice fa fn fc, .slice ra rn rc, .int .i64 tk, .int .i64 ac, .int .i64 dr] 32).below hb02)
  have HR : Hid (Box W0 (w.heap.size + 1) 32 [.int .i64 0, .int .i64 0, .int .i64 0, .int .i64 0, .int .i64 0, .int .i64 0, .int .i64 0, .int .i64 0, .int .i64 0, .int .i64 0, .int .i64 0, .int .i64 0, .int .i64 0, .slice none 0 0, .slice none 0 0, .int .i64 0, .slice none 0 0, .slice none 0 0, .int .i64 0, .int .i64 0, .int .i64 0]) := Lib.hid (by
    rw [hW0]
    have := Box.new (w.alloc (.cells #[.int .i64 de, .int .i64 qu, .int .i64 wi, .int .i64 ti, .int .i64 qa, .int .i64 bu, .int .i64 le, .int .i64 pb, .int .i64 pc, .int .i64 pj, .int .i64 pt, .int .i64 nw, .int .i64 la, .slice ea en ec, .slice ka kn kc, .int .i64 tu, .slice fa fn fc, .slice ra rn rc, .int .i64 tk, .int .i64 ac, .int .i64 dr] 32)) [.int .i64 0, .int .i64 0, .int .i64 0, .int .i64 0, .int .i64 0, .int .i64 0, .int .i64 0, .int .i64 0, .int .i64 0, .int .i64 0, .int .i64 0, .int .i64 0, .int .i64 0, .slice none 0 0, .slice none 0 0, .int .i64 0, .slice none 0 0, .slice none 0 0, .int .i64 0, .int .i64 0, .int .i64 0] 32
    simpa using this)
  have HL : Hid (Below w.heap.size w W0) := Lib.hid (by rw [hW0]; exact hb01.trans (hb02.mono (by simp)))
  have HS0 := Lib.hid (show W0.heap.size = w.heap.size + 1 + 1 by rw [hW0]; simp)
  have HWE := Lib.hid hW0
  have HG := Lib.hid h
  have HSM := Lib.hid hs
  have HT0 := Lib.hid (show GIs W0.heap.size W0 ea en ka kn fa fn ra rn E K F R from h.here HL.out)
  clear hW0 hb01 hb02 h hs
  go_enter Tryz.func21, Tryz.ntmps21
  go_upto_region 1 with fail
  rw [← HWE.out]
  clear HWE
  obtain ⟨B1, hB1⟩ : ∃ B, B = W0.heap.size := ⟨_, rfl⟩
  have HB1 := Lib.hid (show w.heap.size + 1 < B1 by rw [hB1, HS0.out]; omega)
  go_wp2_with (first | (refine wpList_load_box rfl _ 32 rfl rfl HA.out _ Tryz.underlying32 sizeGate ?_) | fail)
  refine (specGCopy_any _ de qu wi ti qa bu le pb pc pj pt nw la ea en ec ka kn kc tu fa fn fc ra rn rc tk ac dr E K F R HT0.out HSM.out).mono ?_
  rintro e w1 ⟨⟨ea1, ec1, ka1, kc1, fa1, fc1, ra1, rc1, vs, rfl, ho⟩, hb⟩
  rw [← hB1] at ho
  obtain ⟨lE, hlE⟩ : ∃ l, l = E.length := ⟨_, rfl⟩
  obtain ⟨lK, hlK⟩ : ∃ l, l = K.length := ⟨_, rfl⟩
  obtain ⟨lF, hlF⟩ : ∃ l, l = F.length := ⟨_, rfl⟩
  obtain ⟨lR, hlR⟩ : ∃ l, l = R.length := ⟨_, rfl⟩
  rw [← hlE, ← hlK, ← hlF, ← hlR] at ho ⊢
  have HlE := Lib.hid hlE
  have HlK := Lib.hid hlK
  have HlF := Lib.hid hlF
  have HlR := Lib.hid hlR
  have HO := Lib.hid ho
  have HBW := Lib.hid (show B1 ≤ w1.heap.size by rw [hB1]; exact hb.size)
  replace HA := Lib.hid (HA.out.below hb)
  replace HR := Lib.hid (HR.out.below hb)
  replace HL := Lib.hid (low_after HL.out hb)
  clear hb ho hlE hlK hlF hlR hB1 HS0 HT0
  obtain ⟨k3, hk3⟩ : ∃ k, k = w1.heap.size := ⟨_, rfl⟩
  go_upto_region 2 with (first | (refine wpList_store_box rfl _ _ 32 rfl rfl [.int .i64 de, .int .i64 qu, .int .i64 wi, .int .i64 ti, .int .i64 qa, .int .i64 bu, .int .i64 le, .int .i64 pb, .int .i64 pc, .int .i64 pj, .int .i64 pt, .int .i64 nw, .int .i64 la, .slice ea1 lE ec1, .slice ka1 lK kc1, .int .i64 tu, .slice fa1 lF fc1, .slice ra1 lR rc1, .int .i64 tk, .int .i64 ac, .int .i64 dr] rfl (Box.new _ [.int .i64 0, .int .i64 0, .int .i64 0, .int .i64 0, .int .i64 0, .int .i64 0, .int .i64 0, .int .i64 0, .int .i64 0, .int .i64 0, .int .i64 0, .int .i64 0, .int .i64 0, .slice none 0 0, .slice none 0 0, .int .i64 0, .slice none 0 0, .slice none 0 0, .int .i64 0, .int .i64 0, .int .i64 0] 32) sizeGate rfl rfl ?_; intro V0 hXb hgV hlV; have HX := Lib.hid hXb; have HBV := Lib.hid (hlV w1.heap.size w1 (Nat.le_refl _) (bOne w1 _)); clear hXb hgV hlV) | fail)
  simp only [Act.put]
  rw [← hk3] at HX ⊢
  have HK3 := Lib.hid (show B1 ≤ k3 by rw [hk3]; exact HBW.out)
  have HOO := Lib.hid HO.out
  have HK3w := Lib.hid (show w1.heap.size ≤ k3 by rw [hk3]; exact Nat.le_refl _)
  clear hk3
  replace HA := Lib.hid (HA.out.below HBV.out)
  replace HR := Lib.hid (HR.out.below HBV.out)
  replace HL := Lib.hid (low_after HL.out HBV.out)
  replace HO := Lib.hid (HO.out.below HBV.out)
  replace HBW := Lib.hid (Nat.le_trans HBW.out HBV.out.size)
  clear HBV
  have c0 := HA.out.cell 0 _ rfl
  go_wp2_with (first | (refine wpList_loadg_box (by rfl) _ 32 rfl rfl HA.out _ Tryz.underlying32 sizeGate ?_) | fail)
  refine (specGateOk_any _ de qu wi ti qa bu le pb pc pj pt nw la ea en ec ka kn kc tu fa fn fc ra rn rc tk ac dr E K F R (HG.out.here HL.out)).mono ?_
  rintro e w2 ⟨⟨x, rfl, hx⟩, hb⟩
  have HGB := Lib.hid (gokB_of hx)
  have HXP := Lib.hid hx
  clear c0 hx
  replace HA := Lib.hid (HA.out.below hb)
  replace HR := Lib.hid (HR.out.below hb)
  replace HX := Lib.hid (HX.out.below hb)
  replace HO := Lib.hid (HO.out.below hb)
  replace HL := Lib.hid (low_after HL.out hb)
  replace HBW := Lib.hid (Nat.le_trans HBW.out hb.size)
  clear hb
  have c0 := HA.out.cell 0 _ rfl
  cases x with
  | false =>
    have HOK := Lib.hid (show (gokB de qu wi ti qa bu le pb pc pj pt nw la en kn tu fn rn tk ac dr E K F R && inB 1 de d) = false by rw [HGB.out]; rfl)
    go_wp2_with (first | (refine wpList_load_box rfl _ 32 rfl rfl HX.out _ Tryz.underlying32 sizeGate ?_) | (refine wpList_store_box rfl _ _ 32 rfl rfl [.int .i64 de, .int .i64 qu, .int .i64 wi, .int .i64 ti, .int .i64 qa, .int .i64 bu, .int .i64 le, .int .i64 pb, .int .i64 pc, .int .i64 pj, .int .i64 pt, .int .i64 nw, .int .i64 la, .slice ea1 lE ec1, .slice ka1 lK kc1, .int .i64 tu, .slice fa1 lF fc1, .slice ra1 lR rc1, .int .i64 tk, .int .i64 ac, .int .i64 dr] rfl HR.out sizeGate rfl rfl ?_; intro V hXb hgV hlV) | fail)
    rw [show conE joinI (gokB de qu wi ti qa bu le pb pc pj pt nw la en kn tu fn rn tk ac dr E K F R && inB 1 de d) K E d = E from by unfold conE; rw [if_neg (by rw [HOK.out]; simp)], show conK joinK (gokB de qu wi ti qa bu le pb pc pj pt nw la en kn tu fn rn tk ac dr E K F R && inB 1 de d) K d = K from by unfold conK; rw [if_neg (by rw [HOK.out]; simp)]]
    exact bodyPost_ret (v := .agg #[.int .i64 de, .int .i64 qu, .int .i64 wi, .int .i64 ti, .int .i64 qa, .int .i64 bu, .int .i64 le, .int .i64 pb, .int .i64 pc, .int .i64 pj, .int .i64 pt, .int .i64 nw, .int .i64 la, .slice ea1 lE ec1, .slice ka1 lK kc1, .int .i64 tu, .slice fa1 lF fc1, .slice ra1 lR rc1, .int .i64 tk, .int .i64 ac, .int .i64 dr]) (results_box _ Tryz.results21 rfl hXb _ Tryz.underlying32 sizeGate) rfl ⟨⟨ea1, ec1, ka1, kc1, fa1, fc1, ra1, rc1, vs, by rw [← HlE.out, ← HlK.out, ← HlF.out, ← HlR.out], by rw [← HlE.out, ← HlK.out, ← HlF.out, ← HlR.out]; exact (HO.out.low hgV (by have := HB1.out; omega)).base (by have := HB1.out; omega)⟩, hlV w.heap.size w (by omega) HL.out⟩
  | true =>
  have HP := Lib.hid (HXP.out.1 rfl)
  clear HXP
  go_wp2_with fail
  refine (in_any d 1 de _).mono ?_
  rintro e v ⟨rfl, hb⟩
  subst hb
  cases hin : inB 1 de d with
  | false =>
    have HOK := Lib.hid (show (gokB de qu wi ti qa bu le pb pc pj pt nw la en kn tu fn rn tk ac dr E K F R && inB 1 de d) = false by rw [HGB.out, hin]; rfl)
    clear hin
    go_wp2_with (first | (refine wpList_load_box rfl _ 32 rfl rfl HX.out _ Tryz.underlying32 sizeGate ?_) | (refine wpList_store_box rfl _ _ 32 rfl rfl [.int .i64 de, .int .i64 qu, .int .i64 wi, .int .i64 ti, .int .i64 qa, .int .i64 bu, .int .i64 le, .int .i64 pb, .int .i64 pc, .int .i64 pj, .int .i64 pt, .int .i64 nw, .int .i64 la, .slice ea1 lE ec1, .slice ka1 lK kc1, .int .i64 tu, .slice fa1 lF fc1, .slice ra1 lR rc1, .int .i64 tk, .int .i64 ac, .int .i64 dr] rfl HR.out sizeGate rfl rfl ?_; intro V hXb hgV hlV) | fail)
    rw [show conE joinI (gokB de qu wi ti qa bu le pb pc pj pt nw la en kn tu fn rn tk ac dr E K F R && inB 1 de d) K E d = E from by unfold conE; rw [if_neg (by rw [HOK.out]; simp)], show conK joinK (gokB de qu wi ti qa bu le pb pc pj pt nw la en kn tu fn rn tk ac dr E K F R && inB 1 de d) K d = K from by unfold conK; rw [if_neg (by rw [HOK.out]; simp)]]
    exact bodyPost_ret (v := .agg #[.int .i64 de, .int .i64 qu, .int .i64 wi, .int .i64 ti, .int .i64 qa, .int .i64 bu, .int .i64 le, .int .i64 pb, .int .i64 pc, .int .i64 pj, .int .i64 pt, .int .i64 nw, .int .i64 la, .slice ea1 lE ec1, .slice ka1 lK kc1, .int .i64 tu, .slice fa1 lF fc1, .slice ra1 lR rc1, .int .i64 tk, .int .i64 ac, .int .i64 dr]) (results_box _ Tryz.results21 rfl hXb _ Tryz.underlying32 sizeGate) rfl ⟨⟨ea1, ec1, ka1, kc1, fa1, fc1, ra1, rc1, vs, by rw [← HlE.out, ← HlK.out, ← HlF.out, ← HlR.out], by rw [← HlE.out, ← HlK.out, ← HlF.out, ← HlR.out]; exact (HO.out.low hgV (by have := HB1.out; omega)).base (by have := HB1.out; omega)⟩, hlV w.heap.size w (by omega) HL.out⟩
  | true =>
  have HOK := Lib.hid (show (gokB de qu wi ti qa bu le pb pc pj pt nw la en kn tu fn rn tk ac dr E K F R && inB 1 de d) = true by rw [HGB.out, hin]; rfl)
  have hd := inB_yes hin
  clear hin HGB
  obtain ⟨m, rfl⟩ : ∃ m : Nat, d = (m : Int) + 1 := ⟨(d - 1).toNat, by omega⟩
  have hkd := HP.out.2.2.2.1.1
  have hkn : (m : Int) < (kn : Int) := by omega
  have hlkn := HG.out.lk.hlen
  have hmK : m < K.length := by omega
  have hwm : IntKind.i64.wrap ((m : Int) + 1 - 1) = (m : Int) := by rw [show (m : Int) + 1 - 1 = (m : Int) by omega]; exact IntWalk.i64_in _ (by have := HP.out.1.2.1; omega)
  obtain ⟨b, off, up, ep, sq, y, fa0, fl, fc0, rfl, hbl, hlj, hy, d0, d1, d2, d3⟩ := (HG.out.lk.below HL.out).at m hmK
  have HLJ := Lib.hid hlj
  have HY := Lib.hid (hy.mono HL.out.size)
  have HYF := Lib.hid (show y.length ≤ 1048576 by have h1 := HSM.out.2.2.1 K[m] (List.getElem_mem _); rw [hlj] at h1; exact h1)
  have HMK := Lib.hid hmK
  have HKN := Lib.hid hlkn
  clear hlj hy hbl hkd hlkn
  have c14 := HA.out.cell 14 _ rfl
  obtain ⟨q, hq⟩ : ∃ q : Int, q = (m : Int) + 1 := ⟨_, rfl⟩
  rw [← hq] at hwm hd HOK ⊢
  have HQQ := Lib.hid hq
  clear hq
  go_wp2_with fail
  refine (Lnk.specJoinC_any _ fa0 fl fc0 up ep sq y HY.out (by have := HY.out.hlen; have := HYF.out; omega)).mono ?_
  rintro e w3 ⟨⟨a2, cap2, a3, cap3, rfl, hoy, hoi⟩, hb⟩
  obtain ⟨U, hU⟩ : ∃ U, U = joU up ep sq y := ⟨_, rfl⟩
  obtain ⟨P, hP⟩ : ∃ P, P = joE up ep sq y := ⟨_, rfl⟩
  obtain ⟨S, hS⟩ : ∃ S, S = joS up ep sq y := ⟨_, rfl⟩
  obtain ⟨L, hL⟩ : ∃ L, L = joL up ep sq y := ⟨_, rfl⟩
  obtain ⟨I, hI⟩ : ∃ I, I = joI up ep sq y := ⟨_, rfl⟩
  rw [← hL] at hoy ⊢
  rw [← hI] at hoi ⊢
  rw [← hU, ← hP, ← hS]
  have HJK := Lib.hid (show joinK ⟨up, ep, sq, y⟩ = ⟨U, P, S, L⟩ by rw [hU, hP, hS, hL]; rfl)
  have HJI := Lib.hid (show joinI ⟨up, ep, sq, y⟩ = I by rw [hI]; rfl)
  obtain ⟨lL, hlL⟩ : ∃ l, l = L.length := ⟨_, rfl⟩
  obtain ⟨lI, hlI⟩ : ∃ l, l = I.length := ⟨_, rfl⟩
  rw [← hlL] at hoy ⊢
  rw [← hlI] at hoi ⊢
  have HlI := Lib.hid hlI
  have HlL := Lib.hid hlL
  have HRW := Lib.hid (HO.out.rows.app hb (pairApart (r := flR (.slice a2 lL cap2) L) (s := inR (.slice a3 lI cap3) I) hoy hoi ne_fi) HBW.out)
  have HIL := Lib.hid (show I.length ≤ 1048576 by rw [← HJI.out]; exact Nat.le_trans (joinI_len _) HYF.out)
  clear hU hP hS hL hI hlL hlI hoy hoi c0 c14 d0 d1 d2 d3 HY
  replace HA := Lib.hid (HA.out.below hb)
  replace HR := Lib.hid (HR.out.below hb)
  replace HX := Lib.hid (HX.out.below hb)
  replace HO := Lib.hid (HO.out.below hb)
  replace HL := Lib.hid (low_after HL.out hb)
  replace HBW := Lib.hid (Nat.le_trans HBW.out hb.size)
  clear hb
  obtain ⟨gk, hgk⟩ := own_some HO.out.lkO (by rw [rawOf_len HO.out.len]; have := HMK.out; omega)
  obtain ⟨rfl, hgw⟩ := hgk
  have hmr : m < (rawOf K vs).length := by rw [rawOf_len HO.out.len]; exact HMK.out
  have hbn := bOne w3 (.cells #[.bool U, .int .i64 P, .int .i64 S, .slice a2 lL cap2] 82)
  have HLO := Lib.hid (HO.out.lkO.below hbn)
  obtain ⟨⟨z0, z1, z2, z3, hzz, e0, e1, e2, e3⟩, f0, f1, f2, f3⟩ := lown_at HLO.out m hmr
  have hst := lown_set HLO.out m hmr U P S (.slice a2 lL cap2)
  have HST := Lib.hid hst
  have HBN := Lib.hid hbn
  have HMR := Lib.hid hmr
  have o14 := (HX.out.below hbn).cell 14 _ rfl
  have hmlk : (m : Int) < (lK : Int) := by have h1 := HMK.out; have h2 := HlK.out; omega
  have HGKW := Lib.hid hgw
  have HGB1 := Lib.hid (show B1 ≤ gk from (World.ownsRow.lt HOO.out.lkO gk rfl).1)
  have HGW1 := Lib.hid (show gk < w1.heap.size from (World.ownsRow.lt HOO.out.lkO gk rfl).2)
  clear hst hbn hmr hzz hgw
  go_upto_region 6 with fail
  clear e0 e1 e2 e3 f0 f1 f2 f3 o14 z0 z1 z2 z3
  obtain ⟨w4, hw4⟩ : ∃ V, V = (((((w3.alloc (.cells #[.bool U, .int .i64 P, .int .i64 S, .slice a2 lL cap2] 82)).setCell ⟨gk, m * 4, none⟩ (.bool U)).setCell ⟨gk, m * 4 + 1, none⟩ (.int .i64 P)).setCell ⟨gk, m * 4 + 2, none⟩ (.int .i64 S)).setCell ⟨gk, m * 4 + 3, none⟩ (.slice a2 lL cap2)) := ⟨_, rfl⟩
  rw [← hw4] at HST ⊢
  clear hw4

  have hgx := HST.out.2
  have HO4 := Lib.hid (GOwn.setLk (k := ⟨U, P, S, L⟩) m (HO.out.below HBN.out) ((HRW.out.below HBN.out).sub (List.Sublist.cons_cons _ (List.sublist_cons_self _ _))) hgx HST.out.1)
  have HI4 := Lib.hid (((HRW.out.below HBN.out).at_ (inR (.slice a3 lI cap3) I) (by simp)).kept hgx ((((HRW.out.below HBN.out).at_ (inR (.slice a3 lI cap3) I) (by simp)).apart (s := lrR (.slice (some ⟨gk, 0, none⟩) lK kc1) (rawOf K vs)) HLO.out ne_il)))
  have HAP := Lib.hid (((HRW.out.below HBN.out).at_ (inR (.slice a3 lI cap3) I) (by simp)).apart (s := evR (.slice ea1 lE ec1) E) (HO.out.below HBN.out).evO ne_ie)
  replace HA := Lib.hid ((HA.out.below HBN.out).grown hgx (by have := HGB1.out; have := HB1.out; simp; omega))
  replace HR := Lib.hid ((HR.out.below HBN.out).grown hgx (by have := HGB1.out; have := HB1.out; simp; omega))
  replace HX := Lib.hid ((HX.out.below HBN.out).grown hgx (by have := HK3w.out; have := HGW1.out; simp; omega))
  replace HL := Lib.hid ((low_after HL.out HBN.out).grown hgx (low_after HL.out HBN.out).size (fun z hz => by cases hz; have := HGB1.out; have := HB1.out; omega))
  clear hgx HST HO HLO HRW HBN
  obtain ⟨K', hK'⟩ : ∃ K', K' = (K.set m ⟨U, P, S, L⟩) := ⟨_, rfl⟩
  obtain ⟨vs', hvs'⟩ : ∃ v, v = vs.set m (.slice a2 lL cap2) := ⟨_, rfl⟩
  rw [← hK', ← hvs'] at HO4
  have hlK2 : lK = K'.length := by rw [hK', List.length_set]; exact HlK.out
  have HKE := Lib.hid hK'
  have HlK2 := Lib.hid hlK2
  clear hK' hvs' hlK2
  rw [HlE.out, HlK2.out, HlF.out, HlR.out] at HO4
  have hII := Lnk.IOwn.isN (inR_at.1 HI4.out)
  go_wp2_with (first | (refine wpList_load_box rfl _ 32 rfl rfl HX.out _ Tryz.underlying32 sizeGate ?_) | fail)
  rw [HlE.out, HlK2.out, HlF.out, HlR.out]
  refine (back_any B1 _ de qu wi ti qa bu le pb pc pj pt nw la ea1 ec1 (some ⟨gk, 0, none⟩) kc1 tu fa1 fc1 ra1 rc1 tk ac dr vs' E K' F R a3 lI cap3 I HO4.out hII (slice_apart (by rw [← HlE.out]; exact HAP.out)) (by have := HSM.out.1; have := HG.out.ev.row.hlen; omega) (by have := HIL.out; have := HlI.out; omega)).mono ?_
  rintro e w5 ⟨rfl, ho5, hg5⟩

  have hne5 : ∀ z, z < B1 → some z ≠ (Value.slice ea1 E.length ec1).ownBlock := fun z hz e => by have := (World.ownsRow.lt HO4.out.evO z e.symm).1; omega
  replace HR := Lib.hid (HR.out.grown hg5 (hne5 _ (by have := HB1.out; omega)))
  replace HL := Lib.hid (HL.out.grown hg5 HL.out.size (fun z hz => by have := (World.ownsRow.lt HO4.out.evO z hz).1; have := HB1.out; omega))
  clear hg5 hII hne5 hwm
  go_wp2_with (first | (refine wpList_store_box rfl _ _ 32 rfl rfl [.int .i64 de, .int .i64 qu, .int .i64 wi, .int .i64 ti, .int .i64 qa, .int .i64 bu, .int .i64 le, .int .i64 pb, .int .i64 pc, .int .i64 pj, .int .i64 pt, .int .i64 nw, .int .i64 la, .slice ea1 E.length ec1, .slice (some ⟨gk, 0, none⟩) K'.length kc1, .int .i64 tu, .slice fa1 F.length fc1, .slice ra1 R.length rc1, .int .i64 tk, .int .i64 ac, .int .i64 dr] rfl HR.out sizeGate rfl rfl ?_; intro V hXb hgV hlV) | fail)
  have hok2 := HOK.out
  rw [HQQ.out] at hok2
  rw [hok2]
  rw [conE_at HMK.out rfl HLJ.out, conK_at HMK.out rfl HLJ.out, HJK.out, HJI.out, ← HKE.out]
  exact bodyPost_ret (v := .agg #[.int .i64 de, .int .i64 qu, .int .i64 wi, .int .i64 ti, .int .i64 qa, .int .i64 bu, .int .i64 le, .int .i64 pb, .int .i64 pc, .int .i64 pj, .int .i64 pt, .int .i64 nw, .int .i64 la, .slice ea1 E.length ec1, .slice (some ⟨gk, 0, none⟩) K'.length kc1, .int .i64 tu, .slice fa1 F.length fc1, .slice ra1 R.length rc1, .int .i64 tk, .int .i64 ac, .int .i64 dr]) (results_box _ Tryz.results21 rfl hXb _ Tryz.underlying32 sizeGate) rfl ⟨⟨ea1, ec1, some ⟨gk, 0, none⟩, kc1, fa1, fc1, ra1, rc1, vs', by rw [backE_len], by rw [backE_len]; exact (GOwn.low ho5 hgV (by have := HB1.out; omega)).base (by have := HB1.out; omega)⟩, hlV w.heap.size w (by omega) HL.out⟩

end Go.Proofs.YtkndpkingmemoaaGreatDoor.Gat
namespace Go.Proofs.YtkndpkingmemoaaGreatDoor.Dec
open Go.RowKit

/-- the digits of u, none for 0 -/
def dd (u : Nat) : List UInt8 := if u = 0 then [] else Lib.decDigits u
theorem dd_step (u : Nat) (h : u ≠ 0) : dd u = dd (u / 10) ++ [UInt8.ofNat (48 + u % 10)] := by
  unfold dd
  rw [if_neg h]
  by_cases h1 : u < 10
  · rw [if_pos (by omega), Lib.decDigits_one h1, Nat.mod_eq_of_lt h1]; rfl
  · rw [if_neg (by omega), Lib.decDigits, dif_neg h1]
theorem dd_len (u : Nat) : ∀ k, u < 10 ^ k → (dd u).length ≤ k := by
  intro k
  induction k generalizing u with
  | zero => intro h; have : u = 0 := by simpa using h
            subst this; simp [dd]
  | succ k ih =>
    intro h
    by_cases h0 : u = 0
    · subst h0; simp [dd]
    · rw [dd_step u h0, List.length_append]
      have := ih (u / 10) (by rw [Nat.pow_succ] at h; omega)
      simp; omega
/-- the digit r as a byte; plain, so that nobody rewrites it -/
def dgt (r : Int) : UInt8 := UInt8.ofNat (48 + r.toNat)
theorem size_mk (acc : List UInt8) : (ByteArray.mk acc.toArray).size = acc.length := by show acc.toArray.size = _; simp
theorem dd_i64 (n : Int) (h0 : -9223372036854775808 ≤ n) (h1 : n ≤ 9223372036854775807) : (dd n.natAbs).length ≤ 19 := dd_len _ 19 (by omega)
/-- one round: the digit goes ahead -/
theorem dd_round (N u : Nat) (acc : List UInt8) (hu : u ≠ 0) (h : dd N = dd u ++ acc) : dd N = dd (u / 10) ++ (UInt8.ofNat (48 + u % 10) :: acc) := by
  rw [h, dd_step u hu]; simp
theorem dd_round' (N : Nat) (u : Int) (acc : List UInt8) (r q : Int) (hu : u ≠ 0) (hr : r.toNat = u.natAbs % 10) (hq : q.natAbs = u.natAbs / 10) (h : dd N = dd u.natAbs ++ acc) : dd N = dd q.natAbs ++ (dgt r :: acc) := by
  rw [dd_round N u.natAbs acc (by omega) h, hq, dgt, hr]
end Go.Proofs.YtkndpkingmemoaaGreatDoor.Dec
namespace Go.Proofs.YtkndpkingmemoaaGreatDoor.Kit
open Go.RowKit
set_option linter.unusedVariables false

/-- the mark of number k -/
def mkt (k : Nat) : ByteArray := ⟨(109 :: Dec.dd k).toArray⟩
/-- the marks from k on, n of them -/
def marks (k n : Nat) : List ByteArray := (List.range n).map fun j => mkt (k + j)
/-- A row of texts: its cells, if it has any, lie at the head of a block. -/
def SRow (w : World) (ad : Option Addr) (l : List ByteArray) : Prop := ∀ j (h : j < l.length), ∃ g, ad = some ⟨g, 0, none⟩ ∧ g < w.heap.size ∧ w.cell? ⟨g, j, none⟩ = some (.string l[j])

theorem SRow.grown {w w' : World} {ad : Option Addr} {l : List ByteArray} {r : Option Nat} (h : SRow w ad l) (hg : w.grownBy w' r) (hr : ∀ g, ad = some ⟨g, 0, none⟩ → some g ≠ r) : SRow w' ad l := by
  intro j hj
  obtain ⟨g, e, hlt, hc⟩ := h j hj
  exact ⟨g, e, Nat.lt_of_lt_of_le hlt hg.size, hg.cell hc (hr g e)⟩
theorem grown_of_below {w w' : World} (h : Below w.heap.size w w') (r : Option Nat) : w.grownBy w' r := ⟨h.os, h.tape, h.output, h.size, fun k hk _ => h.block k hk⟩
theorem grownTrans {w w1 w2 : World} {r : Option Nat} (h : w.grownBy w1 r) (k : w1.grownBy w2 r) : w.grownBy w2 r :=
  ⟨k.os.trans h.os, k.tape.trans h.tape, k.output.trans h.output, Nat.le_trans h.size k.size, fun j hj hne => (k.block j (Nat.lt_of_lt_of_le hj h.size) hne).trans (h.block j hj hne)⟩
theorem grownRefl (w : World) (r : Option Nat) : w.grownBy w r := ⟨rfl, rfl, rfl, Nat.le_refl _, fun _ _ _ => rfl⟩
end Go.Proofs.YtkndpkingmemoaaGreatDoor.Kit
namespace Go.Proofs.YtkndpkingmemoaaGreatDoor.Mark
open Go.RowKit Go.Proofs.YtkndpkingmemoaaGreatDoor.Kit Go.Proofs.YtkndpkingmemoaaGreatDoor.Dec
set_option linter.unusedVariables false

theorem dgt_cell (r : Int) (h0 : 0 ≤ r) (h1 : r < 10) : ((dgt r).toNat : Int) = 48 + r := by
  unfold dgt
  rw [UInt8.toNat_ofNat']; omega
theorem one_cat (c : UInt8) (acc : List UInt8) : (⟨#[c]⟩ : ByteArray) ++ (⟨acc.toArray⟩ : ByteArray) = ⟨(c :: acc).toArray⟩ := by
  apply ByteArray.ext
  rw [ByteArray.data_append]
  apply Array.ext'
  rw [Array.toList_append]
  simp
theorem one_byte (w : World) (r : Int) (h0 : 0 ≤ r) (h1 : r < 10) :
    (convert 22 9 (.slice (some ⟨w.heap.size, 0, none⟩) 1 1)).run Tryz.prog (w.alloc (.cells #[.int .u8 (48 + r)] 5)) = .ok (.string ⟨#[dgt r]⟩) (w.alloc (.cells #[.int .u8 (48 + r)] 5)) := by
  refine run_convert_bytes_back (P := Tryz.prog) (w.alloc (.cells #[.int .u8 (48 + r)] 5)) 22 9 5 ⟨w.heap.size, 0, none⟩ 1 [dgt r] Tryz.underlying22 Tryz.underlying5 Tryz.underlying9 ?_
  intro j hj
  obtain rfl : j = 0 := by simpa using hj
  have hb : (w.alloc (.cells #[.int .u8 (48 + r)] 5)).heap[w.heap.size]? = some (.cells #[.int .u8 (48 + r)] 5 (0, 0)) := heap_alloc_new w _
  have hc := cell_of_one hb
  rw [show (⟨w.heap.size, 0, none⟩ : Addr).add 0 = ⟨w.heap.size, 0, none⟩ from rfl, hc]
  simp only [List.getElem_cons_zero]
  rw [dgt_cell r h0 h1]

set_option maxRecDepth 100000 in
set_option maxHeartbeats 400000 in
theorem markText_any (n : Int) (w : World) (h0 : 0 < n) (h1 : n ≤ 9223372036854775807) :
    Calls Tryz.prog 128 #[.int .i64 n] w fun e w' => e = .returned (.string (mkt n.natAbs)) ∧ w.grownBy w' none := by
  have hL := Lib.hid (dd_i64 n (by omega) (by omega))
  go_enter Tryz.func128, Tryz.ntmps128
  go_wp2
  go_loopw [0, 3] (fun m o wr => ∃ (u : Int) (acc : List UInt8), Hid (dd n.natAbs = dd u.natAbs ++ acc) ∧ 0 ≤ u ∧ u ≤ n ∧ m = .int .i64 u ∧ o = .string ⟨acc.toArray⟩ ∧ w.grownBy wr none) (fun m _ _ => (intOf m).natAbs)
  case atStart => exact ⟨n, [], Lib.hid (by simp), by omega, by omega, rfl, rfl, grownRefl _ _⟩
  case round =>
    obtain ⟨u, acc, HD, hu0, hun, rfl, rfl, hg⟩ := hrel
    have hadd2 : ∀ (c : UInt8) (wx : World), (Op.stringOp .add ⟨#[c]⟩ ⟨acc.toArray⟩).run Tryz.prog wx = .ok (.string ⟨(c :: acc).toArray⟩) wx := fun c wx => by
      rw [run_string_add_sum, one_cat]
      have h1 := size_mk [c]
      have h2 := size_mk acc
      have h3 : (dd n.natAbs).length = (dd u.natAbs).length + acc.length := by rw [HD.out, List.length_append]
      have h4 := hL.out
      simp at h1
      omega
    by_cases hz : u ≤ 0
    · obtain rfl : u = 0 := by omega
      have hacc : dd n.natAbs = acc := by rw [HD.out]; simp [dd]
      have HA := Lib.hid hacc
      have hadd := hadd2 109
      clear hacc hadd2
      go_wp2
      go_ret
      exact ⟨congrArg (fun l : List UInt8 => Ending.returned (.string ⟨l.toArray⟩)) (by rw [HA.out]), hg⟩
    · have hr := Int.emod_lt_of_pos u (show (0 : Int) < 10 by omega)
      have hr0 := Int.emod_nonneg u (show (10 : Int) ≠ 0 by omega)
      have hcv := one_byte wr (u % 10) hr0 hr
      have hadd := hadd2 (dgt (u % 10))
      clear hadd2
      go_wp2
      go_roundw
      case rel => exact ⟨u / 10, dgt (u % 10) :: acc, Lib.hid (dd_round' _ u acc _ _ (by omega) (by omega) (by omega) HD.out), by omega, by omega, rfl, rfl, grownTrans hg (World.grownBy_alloc _ _ _)⟩
      case measure => simp [intOf]; omega

end Go.Proofs.YtkndpkingmemoaaGreatDoor.Mark
namespace Go.Proofs.YtkndpkingmemoaaGreatDoor.Gat
open Go.RowKit
open Kit (mkt)
set_option linter.unusedVariables false
set_option linter.unusedSimpArgs false

def mrkE1 (q : Int) : Ev := ⟨q, q + 1, q + 2, mkt (q + 3).natAbs, q + 4, q + 5, q + 6, q + 7, q + 8⟩
def mrkE (q : Int) (n : Nat) : List Ev := (List.range n).map fun (i : Nat) => mrkE1 (q + 9 * (i : Int))
theorem mrkE_len (q : Int) (n : Nat) : (mrkE q n).length = n := by simp [mrkE]
theorem mrkE_snoc (q : Int) (n : Nat) : mrkE q (n + 1) = mrkE q n ++ [mrkE1 (q + 9 * (n : Int))] := by simp [mrkE, List.range_succ]
theorem mrkE_mid_len (q : Int) (l : List Ev) (j : Nat) (h : j ≤ l.length) : (mrkE q j ++ l.drop j).length = l.length := by simp [mrkE_len]; omega
theorem mrkE_step (q : Int) (l : List Ev) (j : Nat) (h : j < l.length) : (mrkE q j ++ l.drop j).set j (mrkE1 (q + 9 * (j : Int))) = mrkE q (j + 1) ++ l.drop (j + 1) := by
  rw [List.set_append, if_neg (by rw [mrkE_len]; omega), mrkE_len, Nat.sub_self, List.drop_eq_getElem_cons h, List.set_cons_zero, mrkE_snoc]
  simp
theorem own_any {α : Type} {S : Shp α} {B : Nat} {w : World} {E : TypeId} {a : Option Addr} {n c : Nat} {l : List α} (h : ROwn S B w E (.slice a n c) l) : w.ownsRow B E S.n (.slice a n c) n (flatF S l) := by
  have hn : n = l.length := h.is.1
  subst hn
  exact h
theorem own_none' (v : Value) : v.ownBlock = none ∨ v.ownBlock ≠ none := by
  cases v.ownBlock with
  | none => exact .inl rfl
  | some k => exact .inr (by simp)
theorem grown_weak {w w' : World} {r : Option Nat} (h : w.grownBy w' none) : w.grownBy w' r := ⟨h.os, h.tape, h.output, h.size, fun k hk _ => h.block k hk (by simp)⟩
/-- the first three cells of a message, and the others behind a call -/
theorem eown_two {B : Nat} {w w2 : World} {E : TypeId} {g cap n' : Nat} {l : List Ev} (h : ROwn evS B w E (.slice (some ⟨g, 0, none⟩) n' cap) l) (k : Nat) (hk : k < l.length) (i d c : Int) (bd : ByteArray) (a t r n s : Int)
    (hg : (((w.setCell ⟨g, k * 9, none⟩ (.int .i64 i)).setCell ⟨g, k * 9 + 1, none⟩ (.int .i64 d)).setCell ⟨g, k * 9 + 2, none⟩ (.int .i64 c)).grownBy w2 none) :
    ROwn evS B ((((((w2.setCell ⟨g, k * 9 + 3, none⟩ (.string bd)).setCell ⟨g, k * 9 + 4, none⟩ (.int .i64 a)).setCell ⟨g, k * 9 + 5, none⟩ (.int .i64 t)).setCell ⟨g, k * 9 + 6, none⟩ (.int .i64 r)).setCell ⟨g, k * 9 + 7, none⟩ (.int .i64 n)).setCell ⟨g, k * 9 + 8, none⟩ (.int .i64 s)) E (.slice (some ⟨g, 0, none⟩) n' cap) (l.set k ⟨i, d, c, bd, a, t, r, n, s⟩) ∧
      w.grownBy ((((((w2.setCell ⟨g, k * 9 + 3, none⟩ (.string bd)).setCell ⟨g, k * 9 + 4, none⟩ (.int .i64 a)).setCell ⟨g, k * 9 + 5, none⟩ (.int .i64 t)).setCell ⟨g, k * 9 + 6, none⟩ (.int .i64 r)).setCell ⟨g, k * 9 + 7, none⟩ (.int .i64 n)).setCell ⟨g, k * 9 + 8, none⟩ (.int .i64 s)) (some g) := by
  have hn : n' = l.length := h.is.1
  subst hn
  have e1 := flatF_set evS l k ⟨i, d, c, bd, a, t, r, n, s⟩ hk
  unfold ROwn at *
  have h0 := World.ownsRow.stored h (k * 9) (.int .i64 i)
  have h1 := World.ownsRow.stored h0.1 (k * 9 + 1) (.int .i64 d)
  have h2 := World.ownsRow.stored h1.1 (k * 9 + 2) (.int .i64 c)
  have hk2 := World.ownsRow.kept h2.1 hg (own_none' _)
  have h3 := World.ownsRow.stored hk2 (k * 9 + 3) (.string bd)
  have h4 := World.ownsRow.stored h3.1 (k * 9 + 4) (.int .i64 a)
  have h5 := World.ownsRow.stored h4.1 (k * 9 + 5) (.int .i64 t)
  have h6 := World.ownsRow.stored h5.1 (k * 9 + 6) (.int .i64 r)
  have h7 := World.ownsRow.stored h6.1 (k * 9 + 7) (.int .i64 n)
  have h8 := World.ownsRow.stored h7.1 (k * 9 + 8) (.int .i64 s)
  refine ⟨?_, ((((((((h0.2.trans h1.2).trans h2.2).trans (grown_weak hg)).trans h3.2).trans h4.2).trans h5.2).trans h6.2).trans h7.2).trans h8.2⟩
  rw [← e1, List.length_set]
  exact h8.1

set_option maxRecDepth 100000 in
set_option maxHeartbeats 8000000 in
theorem markEventS_any (w : World) (B : Nat) (a : Option Addr) (len cap : Nat) (l : List Ev) (q : Int) (h : ROwn evS B w 39 (.slice a len cap) l) (hlen : len ≤ 2000000) (hq0 : 0 ≤ q) (hq1 : q ≤ 100000000) :
    Calls Tryz.prog 81 #[.slice a len cap, .int .i64 q] w fun e w' => e = .returned (.int .i64 (q + 9 * (len : Int))) ∧ ROwn evS B w' 39 (.slice a len cap) (mrkE q len) ∧ w.grownBy w' (Value.slice a len cap).ownBlock := by
  have hnl := h.is.1
  by_cases h0 : len = 0
  · subst h0
    have hl : l = [] := List.length_eq_zero_iff.1 hnl.symm
    subst hl
    have H := Lib.hid h
    clear h hnl
    go_enter Tryz.func81, Tryz.ntmps81
    go_wp2
    go_loopw [1, 5] (fun k i wr => k = .int .i64 q ∧ i = .int .i64 0 ∧ wr = w) (fun _ i _ => 0)
    case atStart => exact ⟨rfl, rfl, rfl⟩
    case round =>
      obtain ⟨rfl, rfl, rfl⟩ := hrel
      go_wp2
      go_ret
      exact ⟨by simp, H.out, World.grownBy.refl _ _⟩
  · obtain ⟨g, rfl⟩ : ∃ g, a = some ⟨g, 0, none⟩ := by
      rcases h.2 with ⟨e, h1⟩ | ⟨g, c, cur, e, _⟩
      · omega
      · simp only [Value.slice.injEq] at e
        exact ⟨g, e.1⟩
    have H := Lib.hid h
    have HL := Lib.hid hnl
    clear h hnl
    go_enter Tryz.func81, Tryz.ntmps81
    go_wp2
    go_loopw [1, 5] (fun k i wr => ∃ j : Nat, j ≤ len ∧ k = .int .i64 (q + 9 * (j : Int)) ∧ i = .int .i64 j ∧ Hid (ROwn evS B wr 39 (.slice (some ⟨g, 0, none⟩) len cap) (mrkE q j ++ l.drop j)) ∧ Hid (w.grownBy wr (some g))) (fun _ i _ => len - (intOf i).toNat)
    case atStart => exact ⟨0, by omega, by go_num, rfl, Lib.hid (by simpa [mrkE] using H.out), Lib.hid (World.grownBy.refl _ _)⟩
    case round =>
      obtain ⟨j, hj, rfl, rfl, HO, HG⟩ := hrel
      by_cases hlt : (j : Int) < (len : Int)
      · have hjl : j < l.length := by have := HL.out; omega
        have hm : j < (mrkE q j ++ l.drop j).length := by rw [mrkE_mid_len q l j (by omega)]; exact hjl
        obtain ⟨⟨z0, z1, z2, z3, z4, z5, z6, z7, z8, c0, c1, c2, c3, c4, c5, c6, c7, c8⟩, f0, f1, f2, f3, f4, f5, f6, f7, f8⟩ := eown_at HO.out j hm
        obtain ⟨k, hk⟩ : ∃ k : Int, k = q + 9 * (j : Int) := ⟨_, rfl⟩
        rw [← hk]
        have hk0 : 0 ≤ k := by omega
        have hk1 : k ≤ 200000000 := by omega
        have HK := Lib.hid hk
        have HM := Lib.hid hm
        have hw0 : IntKind.i64.wrap (k + 1) = k + 1 := by rw [show k + 1 = k + 1 by omega]; exact IntWalk.i64_in _ (by omega)
        have hw1 : IntKind.i64.wrap (k + 1 + 1) = k + 2 := by rw [show k + 1 + 1 = k + 2 by omega]; exact IntWalk.i64_in _ (by omega)
        have hw2 : IntKind.i64.wrap (k + 2 + 1) = k + 3 := by rw [show k + 2 + 1 = k + 3 by omega]; exact IntWalk.i64_in _ (by omega)
        have hw3 : IntKind.i64.wrap (k + 3 + 1) = k + 4 := by rw [show k + 3 + 1 = k + 4 by omega]; exact IntWalk.i64_in _ (by omega)
        have hw4 : IntKind.i64.wrap (k + 4 + 1) = k + 5 := by rw [show k + 4 + 1 = k + 5 by omega]; exact IntWalk.i64_in _ (by omega)
        have hw5 : IntKind.i64.wrap (k + 5 + 1) = k + 6 := by rw [show k + 5 + 1 = k + 6 by omega]; exact IntWalk.i64_in _ (by omega)
        have hw6 : IntKind.i64.wrap (k + 6 + 1) = k + 7 := by rw [show k + 6 + 1 = k + 7 by omega]; exact IntWalk.i64_in _ (by omega)
        have hw7 : IntKind.i64.wrap (k + 7 + 1) = k + 8 := by rw [show k + 7 + 1 = k + 8 by omega]; exact IntWalk.i64_in _ (by omega)
        have hw8 : IntKind.i64.wrap (k + 8 + 1) = k + 9 := by rw [show k + 8 + 1 = k + 9 by omega]; exact IntWalk.i64_in _ (by omega)
        clear hm hk
        go_upto_region 10 with fail
        obtain ⟨w1, hw1⟩ : ∃ V, V = ((wr.setCell ⟨g, j * 9, none⟩ (.int .i64 k)).setCell ⟨g, j * 9 + 1, none⟩ (.int .i64 (k + 1))).setCell ⟨g, j * 9 + 2, none⟩ (.int .i64 (k + 2)) := ⟨_, rfl⟩
        have hb1 : ∃ xs, w1.ownsRow B 39 9 (.slice (some ⟨g, 0, none⟩) len cap) len xs := by
          have h0 := own_any HO.out
          have h1 := World.ownsRow.stored h0 (j * 9) (.int .i64 k)
          have h2 := World.ownsRow.stored h1.1 (j * 9 + 1) (.int .i64 (k + 1))
          have h3 := World.ownsRow.stored h2.1 (j * 9 + 2) (.int .i64 (k + 2))
          rw [hw1]
          exact ⟨_, h3.1⟩
        have HE := Lib.hid hw1
        rw [← hw1]
        clear hw1 c0 c1 c2 c3 c4 c5 c6 c7 c8 f0 f1 f2 f3 f4 f5 f6 f7 f8
        obtain ⟨xs, hxs⟩ := hb1
        have HXS := Lib.hid hxs
        have HLT := Lib.hid (show j * 9 + 9 ≤ xs.length by rw [hxs.1]; omega)
        clear hxs
        go_wp2_with fail
        refine (Go.Proofs.YtkndpkingmemoaaGreatDoor.Mark.markText_any (k + 3) _ (by omega) (by omega)).mono ?_
        rintro e w2 ⟨rfl, hg⟩
        have hx2 := World.ownsRow.kept HXS.out hg (own_none' _)
        have HST := Lib.hid (eown_two HO.out j HM.out k (k + 1) (k + 2) (mkt (k + 3).natAbs) (k + 4) (k + 5) (k + 6) (k + 7) (k + 8) (w2 := w2) (by rw [← HE.out]; exact hg))
        obtain ⟨T, hT⟩ : ∃ T, T = mkt (k + 3).natAbs := ⟨_, rfl⟩
        rw [← hT] at HST ⊢
        have HTT := Lib.hid hT
        have HX2 := Lib.hid (And.intro hx2 HLT.out)
        clear hx2 hT hg
        obtain ⟨y, dd⟩ : ∃ y, w2.cell? ⟨g, j * 9 + 3, none⟩ = some y := ⟨_, (HX2.out.1.cellAt (j * 9 + 3) (by have := HX2.out.2; omega)).trans (List.getElem?_eq_getElem (by have := HX2.out.2; omega))⟩
        have gg := HX2.out.1.frozenAt (j * 9 + 3)
        go_upto_region 11 with fail
        obtain ⟨w23, hw⟩ : ∃ V, V = w2.setCell ⟨g, j * 9 + 3, none⟩ (.string T) := ⟨_, rfl⟩
        have hx := World.ownsRow.stored HX2.out.1 (j * 9 + 3) (.string T)
        rw [← hw] at hx ⊢
        obtain ⟨ys23, hx1, hx2⟩ : ∃ ys, w23.ownsRow B 39 9 (.slice (some ⟨g, 0, none⟩) len cap) len ys ∧ j * 9 + 9 ≤ ys.length := ⟨_, hx.1, by rw [List.length_set]; exact HX2.out.2⟩
        have HX23 := Lib.hid (And.intro hx1 hx2)
        clear hx1 hx2
        have HE23 := Lib.hid hw
        clear hw hx dd gg y HX2
        obtain ⟨y, dd⟩ : ∃ y, w23.cell? ⟨g, j * 9 + 4, none⟩ = some y := ⟨_, (HX23.out.1.cellAt (j * 9 + 4) (by have := HX23.out.2; omega)).trans (List.getElem?_eq_getElem (by have := HX23.out.2; omega))⟩
        have gg := HX23.out.1.frozenAt (j * 9 + 4)
        go_upto_region 13 with fail
        obtain ⟨w24, hw⟩ : ∃ V, V = w23.setCell ⟨g, j * 9 + 4, none⟩ (.int .i64 (k + 4)) := ⟨_, rfl⟩
        have hx := World.ownsRow.stored HX23.out.1 (j * 9 + 4) (.int .i64 (k + 4))
        rw [← hw] at hx ⊢
        obtain ⟨ys24, hx1, hx2⟩ : ∃ ys, w24.ownsRow B 39 9 (.slice (some ⟨g, 0, none⟩) len cap) len ys ∧ j * 9 + 9 ≤ ys.length := ⟨_, hx.1, by rw [List.length_set]; exact HX23.out.2⟩
        have HX24 := Lib.hid (And.intro hx1 hx2)
        clear hx1 hx2
        have HE24 := Lib.hid hw
        clear hw hx dd gg y HX23
        obtain ⟨y, dd⟩ : ∃ y, w24.cell? ⟨g, j * 9 + 5, none⟩ = some y := ⟨_, (HX24.out.1.cellAt (j * 9 + 5) (by have := HX24.out.2; omega)).trans (List.getElem?_eq_getElem (by have := HX24.out.2; omega))⟩
        have gg := HX24.out.1.frozenAt (j * 9 + 5)
        go_upto_region 15 with fail
        obtain ⟨w25, hw⟩ : ∃ V, V = w24.setCell ⟨g, j * 9 + 5, none⟩ (.int .i64 (k + 5)) := ⟨_, rfl⟩
        have hx := World.ownsRow.stored HX24.out.1 (j * 9 + 5) (.int .i64 (k + 5))
        rw [← hw] at hx ⊢
        obtain ⟨ys25, hx1, hx2⟩ : ∃ ys, w25.ownsRow B 39 9 (.slice (some ⟨g, 0, none⟩) len cap) len ys ∧ j * 9 + 9 ≤ ys.length := ⟨_, hx.1, by rw [List.length_set]; exact HX24.out.2⟩
        have HX25 := Lib.hid (And.intro hx1 hx2)
        clear hx1 hx2
        have HE25 := Lib.hid hw
        clear hw hx dd gg y HX24
        obtain ⟨y, dd⟩ : ∃ y, w25.cell? ⟨g, j * 9 + 6, none⟩ = some y := ⟨_, (HX25.out.1.cellAt (j * 9 + 6) (by have := HX25.out.2; omega)).trans (List.getElem?_eq_getElem (by have := HX25.out.2; omega))⟩
        have gg := HX25.out.1.frozenAt (j * 9 + 6)
        go_upto_region 17 with fail
        obtain ⟨w26, hw⟩ : ∃ V, V = w25.setCell ⟨g, j * 9 + 6, none⟩ (.int .i64 (k + 6)) := ⟨_, rfl⟩
        have hx := World.ownsRow.stored HX25.out.1 (j * 9 + 6) (.int .i64 (k + 6))
        rw [← hw] at hx ⊢
        obtain ⟨ys26, hx1, hx2⟩ : ∃ ys, w26.ownsRow B 39 9 (.slice (some ⟨g, 0, none⟩) len cap) len ys ∧ j * 9 + 9 ≤ ys.length := ⟨_, hx.1, by rw [List.length_set]; exact HX25.out.2⟩
        have HX26 := Lib.hid (And.intro hx1 hx2)
        clear hx1 hx2
        have HE26 := Lib.hid hw
        clear hw hx dd gg y HX25
        obtain ⟨y, dd⟩ : ∃ y, w26.cell? ⟨g, j * 9 + 7, none⟩ = some y := ⟨_, (HX26.out.1.cellAt (j * 9 + 7) (by have := HX26.out.2; omega)).trans (List.getElem?_eq_getElem (by have := HX26.out.2; omega))⟩
        have gg := HX26.out.1.frozenAt (j * 9 + 7)
        go_upto_region 19 with fail
        obtain ⟨w27, hw⟩ : ∃ V, V = w26.setCell ⟨g, j * 9 + 7, none⟩ (.int .i64 (k + 7)) := ⟨_, rfl⟩
        have hx := World.ownsRow.stored HX26.out.1 (j * 9 + 7) (.int .i64 (k + 7))
        rw [← hw] at hx ⊢
        obtain ⟨ys27, hx1, hx2⟩ : ∃ ys, w27.ownsRow B 39 9 (.slice (some ⟨g, 0, none⟩) len cap) len ys ∧ j * 9 + 9 ≤ ys.length := ⟨_, hx.1, by rw [List.length_set]; exact HX26.out.2⟩
        have HX27 := Lib.hid (And.intro hx1 hx2)
        clear hx1 hx2
        have HE27 := Lib.hid hw
        clear hw hx dd gg y HX26
        obtain ⟨y, dd⟩ : ∃ y, w27.cell? ⟨g, j * 9 + 8, none⟩ = some y := ⟨_, (HX27.out.1.cellAt (j * 9 + 8) (by have := HX27.out.2; omega)).trans (List.getElem?_eq_getElem (by have := HX27.out.2; omega))⟩
        have gg := HX27.out.1.frozenAt (j * 9 + 8)
        go_upto_region 21 with fail
        obtain ⟨w28, hw⟩ : ∃ V, V = w27.setCell ⟨g, j * 9 + 8, none⟩ (.int .i64 (k + 8)) := ⟨_, rfl⟩
        have hx := World.ownsRow.stored HX27.out.1 (j * 9 + 8) (.int .i64 (k + 8))
        rw [← hw] at hx ⊢
        obtain ⟨ys28, hx1, hx2⟩ : ∃ ys, w28.ownsRow B 39 9 (.slice (some ⟨g, 0, none⟩) len cap) len ys ∧ j * 9 + 9 ≤ ys.length := ⟨_, hx.1, by rw [List.length_set]; exact HX27.out.2⟩
        have HX28 := Lib.hid (And.intro hx1 hx2)
        clear hx1 hx2
        have HE28 := Lib.hid hw
        clear hw hx dd gg y HX27
        rw [← HE23.out, ← HE24.out, ← HE25.out, ← HE26.out, ← HE27.out, ← HE28.out] at HST
        go_wp2_with fail
        go_roundw
        case rel => exact ⟨j + 1, by omega, by rw [HK.out]; go_num, by go_num, Lib.hid (by have h := HST.out.1; rw [HTT.out] at h; rw [← mrkE_step q l j hjl]; rw [← HK.out]; exact h), Lib.hid (HG.out.trans HST.out.2)⟩
        case measure => simp [intOf]; omega
      · have hjl : j = len := by omega
        subst hjl
        have HO' := Lib.hid (show ROwn evS B wr 39 (.slice (some ⟨g, 0, none⟩) j cap) (mrkE q j) by
          have h1 := HO.out
          rw [List.drop_eq_nil_of_le (by have := HL.out; omega), List.append_nil] at h1
          exact h1)
        clear HO
        go_wp2
        go_ret
        exact ⟨rfl, HO'.out, HG.out⟩

end Go.Proofs.YtkndpkingmemoaaGreatDoor.Gat
namespace Go.Proofs.YtkndpkingmemoaaGreatDoor.Gat
open Go.RowKit
open Kit (mkt)
set_option linter.unusedVariables false
set_option linter.unusedSimpArgs false

theorem mrkE_at (q : Int) (n k : Nat) (h : k < (mrkE q n).length) : (mrkE q n)[k] = mrkE1 (q + 9 * (k : Int)) := by simp [mrkE]
theorem grown_drew (w : World) : w.grownBy w.drew none := ⟨rfl, rfl, rfl, Nat.le_refl _, fun _ _ _ => rfl⟩
set_option maxRecDepth 100000 in
set_option maxHeartbeats 8000000 in
theorem heldEventS_any (w : World) (B : Nat) (a : Option Addr) (len cap : Nat) (q : Int) (h : RIs evS B w a len (mrkE q len)) (hB : B ≤ w.heap.size) (hlen : len ≤ 2000000) (hq0 : 0 ≤ q) (hq1 : q ≤ 100000000) :
    Calls Tryz.prog 84 #[.slice a len cap, .int .i64 q] w fun e w' => e = .returned (.int .i64 (q + 9 * (len : Int))) ∧ w.grownBy w' none := by
  have H := Lib.hid h
  have HB := Lib.hid hB
  clear h hB
  go_enter Tryz.func84, Tryz.ntmps84
  go_wp2_with fail
  go_loopw [1, 5] (fun kv i wr => ∃ j : Nat, j ≤ len ∧ kv = .int .i64 (q + 9 * (j : Int)) ∧ i = .int .i64 j ∧ Hid (w.grownBy wr none)) (fun _ i _ => len - (intOf i).toNat)
  case atStart => exact ⟨0, by omega, by go_num, rfl, Lib.hid (World.grownBy.refl _ _)⟩
  case round =>
    obtain ⟨j, hj, rfl, rfl, HG⟩ := hrel
    by_cases hlt : (j : Int) < (len : Int)
    · have hjl : j < (mrkE q len).length := by rw [mrkE_len]; omega
      have hlow : Below B w wr := (Below.refl _ _).grown HG.out HB.out (fun _ e => by cases e)
      obtain ⟨b, off, rfl, hlt2, hc⟩ := (H.out.below hlow).cell j hjl
      rw [mrkE_at] at hc
      obtain ⟨k, hk⟩ : ∃ k : Int, k = q + 9 * (j : Int) := ⟨_, rfl⟩
      rw [← hk] at hc ⊢
      obtain ⟨T, hT⟩ : ∃ T, T = mkt (k + 3).natAbs := ⟨_, rfl⟩
      have c0 := hc 0 _ rfl
      have c1 := hc 1 _ rfl
      have c2 := hc 2 _ rfl
      have c3 := hc 3 _ rfl
      have c4 := hc 4 _ rfl
      have c5 := hc 5 _ rfl
      have c6 := hc 6 _ rfl
      have c7 := hc 7 _ rfl
      have c8 := hc 8 _ rfl
      have hk0 : 0 ≤ k := by omega
      have hk1 : k ≤ 200000000 := by omega
      have HK := Lib.hid hk
      have HT := Lib.hid hT
      change wr.cell? ⟨b, off + j * 9 + 0, none⟩ = some (.int .i64 k) at c0
      change wr.cell? ⟨b, off + j * 9 + 1, none⟩ = some (.int .i64 (k + 1)) at c1
      change wr.cell? ⟨b, off + j * 9 + 2, none⟩ = some (.int .i64 (k + 2)) at c2
      change wr.cell? ⟨b, off + j * 9 + 3, none⟩ = some (.string (mkt (k + 3).natAbs)) at c3
      change wr.cell? ⟨b, off + j * 9 + 4, none⟩ = some (.int .i64 (k + 4)) at c4
      change wr.cell? ⟨b, off + j * 9 + 5, none⟩ = some (.int .i64 (k + 5)) at c5
      change wr.cell? ⟨b, off + j * 9 + 6, none⟩ = some (.int .i64 (k + 6)) at c6
      change wr.cell? ⟨b, off + j * 9 + 7, none⟩ = some (.int .i64 (k + 7)) at c7
      change wr.cell? ⟨b, off + j * 9 + 8, none⟩ = some (.int .i64 (k + 8)) at c8
      rw [Nat.add_zero] at c0
      rw [← hT] at c3
      have hw0 : IntKind.i64.wrap (k + 1) = k + 1 := by rw [show k + 1 = k + 1 by omega]; exact IntWalk.i64_in _ (by omega)
      have hw1 : IntKind.i64.wrap (k + 1 + 1) = k + 2 := by rw [show k + 1 + 1 = k + 2 by omega]; exact IntWalk.i64_in _ (by omega)
      have hw2 : IntKind.i64.wrap (k + 2 + 1) = k + 3 := by rw [show k + 2 + 1 = k + 3 by omega]; exact IntWalk.i64_in _ (by omega)
      have hw3 : IntKind.i64.wrap (k + 3 + 1) = k + 4 := by rw [show k + 3 + 1 = k + 4 by omega]; exact IntWalk.i64_in _ (by omega)
      have hw4 : IntKind.i64.wrap (k + 4 + 1) = k + 5 := by rw [show k + 4 + 1 = k + 5 by omega]; exact IntWalk.i64_in _ (by omega)
      have hw5 : IntKind.i64.wrap (k + 5 + 1) = k + 6 := by rw [show k + 5 + 1 = k + 6 by omega]; exact IntWalk.i64_in _ (by omega)
      have hw6 : IntKind.i64.wrap (k + 6 + 1) = k + 7 := by rw [show k + 6 + 1 = k + 7 by omega]; exact IntWalk.i64_in _ (by omega)
      have hw7 : IntKind.i64.wrap (k + 7 + 1) = k + 8 := by rw [show k + 7 + 1 = k + 8 by omega]; exact IntWalk.i64_in _ (by omega)
      have hw8 : IntKind.i64.wrap (k + 8 + 1) = k + 9 := by rw [show k + 8 + 1 = k + 9 by omega]; exact IntWalk.i64_in _ (by omega)
      have nk : ∀ z : Int, (z != z) = false := fun z => by simp
      clear hk hT hlow hc hlt2
      go_upto_region 13 with fail
      have hd := grown_drew wr
      refine wp_region_held_drew (S := fun w' => (w'.cell? ⟨b, off + j * 9 + 3, none⟩ = some (.string T) ∧ w'.cell? ⟨b, off + j * 9 + 4, none⟩ = some (.int .i64 (k + 4)) ∧ w'.cell? ⟨b, off + j * 9 + 5, none⟩ = some (.int .i64 (k + 5)) ∧ w'.cell? ⟨b, off + j * 9 + 6, none⟩ = some (.int .i64 (k + 6)) ∧ w'.cell? ⟨b, off + j * 9 + 7, none⟩ = some (.int .i64 (k + 7)) ∧ w'.cell? ⟨b, off + j * 9 + 8, none⟩ = some (.int .i64 (k + 8)))) (by kernel_rfl) ⟨hd.cell (a := ⟨b, off + j * 9 + 3, none⟩) c3 (by simp), hd.cell (a := ⟨b, off + j * 9 + 4, none⟩) c4 (by simp), hd.cell (a := ⟨b, off + j * 9 + 5, none⟩) c5 (by simp), hd.cell (a := ⟨b, off + j * 9 + 6, none⟩) c6 (by simp), hd.cell (a := ⟨b, off + j * 9 + 7, none⟩) c7 (by simp), hd.cell (a := ⟨b, off + j * 9 + 8, none⟩) c8 (by simp)⟩ (fun hHeld => ?_)
      replace HG := Lib.hid (HG.out.trans hd)
      clear c0 c1 c2 c3 c4 c5 c6 c7 c8 hd
      refine wpAnyH_take (i := 0) (oi := { dst := some _, op := _, type := _, pos := _, after := _, guard := _ }) (v := ?_) rfl (by kernel_rfl) (by kernel_rfl) (by kernel_rfl) (fun _ _ _ h => h) ?_ (by with_reducible assumption) ?_
      rotate_left 1
      focus (refine Or.inl ⟨by rfl, ?_⟩; intro wq hSw; go_simp; try with_reducible rfl)
      try simp only [Act.put, List.setIfInBounds_toArray, List.set_cons_zero, List.set_cons_succ]
      refine wpAnyH_take (i := 1) (oi := { dst := some _, op := _, type := _, pos := _, after := _, guard := _ }) (v := ?_) rfl (by kernel_rfl) (by kernel_rfl) (by kernel_rfl) (fun _ _ _ h => h) ?_ (by with_reducible assumption) ?_
      rotate_left 1
      focus (refine Or.inl ⟨by rfl, ?_⟩; intro wq hSw; go_simp; try with_reducible rfl)
      try simp only [Act.put, List.setIfInBounds_toArray, List.set_cons_zero, List.set_cons_succ]
      refine wpAnyH_take (i := 2) (oi := { dst := some _, op := _, type := _, pos := _, after := _, guard := _ }) (v := ?_) rfl (by kernel_rfl) (by kernel_rfl) (by kernel_rfl) (fun _ _ _ h => h) ?_ (by with_reducible assumption) ?_
      rotate_left 1
      focus (refine Or.inl ⟨by rfl, ?_⟩; intro wq hSw; go_simp; try with_reducible rfl)
      try simp only [Act.put, List.setIfInBounds_toArray, List.set_cons_zero, List.set_cons_succ]
      refine wpAnyH_take (i := 3) (oi := { dst := some _, op := _, type := _, pos := _, after := _, guard := _ }) (v := ?_) rfl (by kernel_rfl) (by kernel_rfl) (by kernel_rfl) (fun _ _ _ h => h) ?_ (by with_reducible assumption) ?_
      rotate_left 1
      focus (refine Or.inl ⟨by rfl, ?_⟩; intro wq hSw; go_simp; try with_reducible rfl)
      try simp only [Act.put, List.setIfInBounds_toArray, List.set_cons_zero, List.set_cons_succ]
      refine wpAnyH_take (i := 4) (oi := { dst := some _, op := _, type := _, pos := _, after := _, guard := _ }) (v := ?_) rfl (by kernel_rfl) (by kernel_rfl) (by kernel_rfl) (fun _ _ _ h => h) ?_ (by with_reducible assumption) ?_
      rotate_left 1
      focus (refine Or.inl ⟨by rfl, ?_⟩; intro wq hSw; have q0 := hSw.1; go_simp; try with_reducible rfl)
      try simp only [Act.put, List.setIfInBounds_toArray, List.set_cons_zero, List.set_cons_succ]
      refine wpAnyH_take (i := 5) (oi := { dst := some _, op := _, type := _, pos := _, after := _, guard := _ }) (v := ?_) rfl (by kernel_rfl) (by kernel_rfl) (by kernel_rfl) (fun _ _ _ h => h) ?_ (by with_reducible assumption) ?_
      rotate_left 1
      focus (refine Or.inl ⟨by rfl, ?_⟩; intro wq hSw; go_simp; try with_reducible rfl)
      try simp only [Act.put, List.setIfInBounds_toArray, List.set_cons_zero, List.set_cons_succ]
      refine wpAnyH_ready (rs := [6]) (by kernel_rfl) (by simp) ?_
      refine AllReadyH.cons rfl (fun KA hKA => ?_) AllReadyH.nil
      go_simp
      refine (Go.Proofs.YtkndpkingmemoaaGreatDoor.Mark.markText_any (k + 3) _ (by omega) (by omega)).mono ?_
      rintro e v1 ⟨rfl, hg⟩
      rw [← HT.out]
      have HS1 := Lib.hid (show v1.cell? ⟨b, off + j * 9 + 3, none⟩ = some (.string T) ∧ v1.cell? ⟨b, off + j * 9 + 4, none⟩ = some (.int .i64 (k + 4)) ∧ v1.cell? ⟨b, off + j * 9 + 5, none⟩ = some (.int .i64 (k + 5)) ∧ v1.cell? ⟨b, off + j * 9 + 6, none⟩ = some (.int .i64 (k + 6)) ∧ v1.cell? ⟨b, off + j * 9 + 7, none⟩ = some (.int .i64 (k + 7)) ∧ v1.cell? ⟨b, off + j * 9 + 8, none⟩ = some (.int .i64 (k + 8)) from ⟨hg.cell (a := ⟨b, off + j * 9 + 3, none⟩) (hHeld.1) (by simp), hg.cell (a := ⟨b, off + j * 9 + 4, none⟩) (hHeld.2.1) (by simp), hg.cell (a := ⟨b, off + j * 9 + 5, none⟩) (hHeld.2.2.1) (by simp), hg.cell (a := ⟨b, off + j * 9 + 6, none⟩) (hHeld.2.2.2.1) (by simp), hg.cell (a := ⟨b, off + j * 9 + 7, none⟩) (hHeld.2.2.2.2.1) (by simp), hg.cell (a := ⟨b, off + j * 9 + 8, none⟩) (hHeld.2.2.2.2.2) (by simp)⟩)
      replace HG := Lib.hid (HG.out.trans hg)
      clear hg hHeld
      dsimp only
      refine hKA.out _ _ (HS1.out) (fun hHeld => ?_)
      clear hKA
      try simp only [Act.put, List.setIfInBounds_toArray, List.set_cons_zero, List.set_cons_succ]
      refine wpAnyH_take (i := 7) (oi := { dst := some _, op := _, type := _, pos := _, after := _, guard := _ }) (v := ?_) rfl (by kernel_rfl) (by kernel_rfl) (by kernel_rfl) (fun _ _ _ h => h) ?_ (by with_reducible assumption) ?_
      rotate_left 1
      focus (refine Or.inl ⟨by rfl, ?_⟩; intro wq hSw; go_simp; try with_reducible rfl)
      try simp only [Act.put, List.setIfInBounds_toArray, List.set_cons_zero, List.set_cons_succ]
      refine wpAnyH_done (by kernel_rfl) ?_ _
      obtain ⟨c3, c4, c5, c6, c7, c8⟩ := HS1.out
      clear HS1 hHeld c3
      go_wp2_with fail
      go_roundw
      case rel => exact ⟨j + 1, by omega, by rw [HK.out]; go_num, by go_num, HG⟩
      case measure => simp [intOf]; omega
    · have hjn : j = len := by omega
      subst hjn
      go_wp2_with fail
      go_ret
      exact ⟨rfl, HG.out⟩

end Go.Proofs.YtkndpkingmemoaaGreatDoor.Gat
