/-
  A right gate: the walk of the specification's GateOk.
-/
import Derived.Test.YtecfomaapomncaaGtSe
namespace Go.Proofs.Ytecfomaapomncaa.Gat
open Go.RowKit
open Lnk (bOne bAfter IOwn IIs below_keep below_drew' low_after low_alloc)
set_option linter.unusedVariables false

/-- how many are dead, of the first devices -/
def deadN (E : List Ev) : Nat → Nat
  | 0 => 0
  | n + 1 => deadN E n + cntN ((n : Int) + 1) 3 E
theorem deadN_le (E : List Ev) : ∀ n, deadN E n ≤ n * E.length
  | 0 => by simp [deadN]
  | n + 1 => by
    have h1 := deadN_le E n
    have h2 := cntN_le ((n : Int) + 1) 3 E
    rw [Nat.succ_mul]
    unfold deadN
    omega
def specP (de qu wi ti qa bu le pb pc pj pt nw la : Int) (en kn : Nat) (tu : Int) (fn rn : Nat) (tk ac dr : Int) (E : List Ev) (K : List Lk) (F R : List Int) : Prop :=
  CfgOk de qu wi ti qa bu le pb pc pj pt ∧ (0 ≤ nw ∧ nw ≤ 1000000000) ∧ (0 ≤ la ∧ la ≤ 9999) ∧ slP kn fn de wi qu E K F ∧ seP en de la nw E K R ∧ (0 ≤ tu ∧ tu ≤ de - 1) ∧ ((rn : Int) ≤ le ∧ rn = deadN E de.toNat) ∧ toP en tk ac dr

set_option maxRecDepth 100000 in
set_option maxHeartbeats 8000000 in
theorem specGateOk_any (w : World) (de qu wi ti qa bu le pb pc pj pt nw la : Int) (ea : Option Addr) (en ec : Nat) (ka : Option Addr) (kn kc : Nat) (tu : Int) (fa : Option Addr) (fn fc : Nat) (ra : Option Addr) (rn rc : Nat) (tk ac dr : Int) (E : List Ev) (K : List Lk) (F R : List Int) (h : GIs w.heap.size w ea en ka kn fa fn ra rn E K F R) :
    Calls Try.prog 22 #[.agg #[.int .i64 de, .int .i64 qu, .int .i64 wi, .int .i64 ti, .int .i64 qa, .int .i64 bu, .int .i64 le, .int .i64 pb, .int .i64 pc, .int .i64 pj, .int .i64 pt, .int .i64 nw, .int .i64 la, .slice ea en ec, .slice ka kn kc, .int .i64 tu, .slice fa fn fc, .slice ra rn rc, .int .i64 tk, .int .i64 ac, .int .i64 dr]] w fun e w' => BEnd w w' (specP de qu wi ti qa bu le pb pc pj pt nw la en kn tu fn rn tk ac dr E K F R) e := by
  obtain ⟨W0, hW0⟩ : ∃ W, W = w.alloc (.cells #[.int .i64 de, .int .i64 qu, .int .i64 wi, .int .i64 ti, .int .i64 qa, .int .i64 bu, .int .i64 le, .int .i64 pb, .int .i64 pc, .int .i64 pj, .int .i64 pt, .int .i64 nw, .int .i64 la, .slice ea en ec, .slice ka kn kc, .int .i64 tu, .slice fa fn fc, .slice ra rn rc, .int .i64 tk, .int .i64 ac, .int .i64 dr] 33) := ⟨_, rfl⟩
  have HA : Hid (Box W0 w.heap.size 33 [.int .i64 de, .int .i64 qu, .int .i64 wi, .int .i64 ti, .int .i64 qa, .int .i64 bu, .int .i64 le, .int .i64 pb, .int .i64 pc, .int .i64 pj, .int .i64 pt, .int .i64 nw, .int .i64 la, .slice ea en ec, .slice ka kn kc, .int .i64 tu, .slice fa fn fc, .slice ra rn rc, .int .i64 tk, .int .i64 ac, .int .i64 dr]) := Lib.hid (by rw [hW0]; exact Box.new w [.int .i64 de, .int .i64 qu, .int .i64 wi, .int .i64 ti, .int .i64 qa, .int .i64 bu, .int .i64 le, .int .i64 pb, .int .i64 pc, .int .i64 pj, .int .i64 pt, .int .i64 nw, .int .i64 la, .slice ea en ec, .slice ka kn kc, .int .i64 tu, .slice fa fn fc, .slice ra rn rc, .int .i64 tk, .int .i64 ac, .int .i64 dr] 33)
  have HL : Hid (Below w.heap.size w W0) := Lib.hid (by rw [hW0]; exact bOne _ _)
  have HWE := Lib.hid hW0
  have HT0 := Lib.hid h
  have HT := Lib.hid (show GIs W0.heap.size W0 ea en ka kn fa fn ra rn E K F R from by rw [hW0]; exact h.here (bOne _ _))
  clear h hW0
  have c0 := HA.out.cell 0 _ rfl
  have c1 := HA.out.cell 1 _ rfl
  have c2 := HA.out.cell 2 _ rfl
  have c3 := HA.out.cell 3 _ rfl
  have c4 := HA.out.cell 4 _ rfl
  have c5 := HA.out.cell 5 _ rfl
  have c6 := HA.out.cell 6 _ rfl
  have c7 := HA.out.cell 7 _ rfl
  have c8 := HA.out.cell 8 _ rfl
  have c9 := HA.out.cell 9 _ rfl
  have c10 := HA.out.cell 10 _ rfl
  have c11 := HA.out.cell 11 _ rfl
  have c12 := HA.out.cell 12 _ rfl
  go_enter Try.func22, Try.ntmps22
  go_upto_region 1 with fail
  rw [← HWE.out]
  clear HWE
  go_wp2_with fail
  refine (specCfg_any de qu wi ti qa bu le pb pc pj pt _).mono ?_
  rintro e w1 ⟨rfl, hb⟩
  replace HA := Lib.hid (HA.out.below hb)
  replace HL := Lib.hid (low_after HL.out hb)
  replace HT := Lib.hid (HT.out.here hb)
  clear hb c0 c1 c2 c3 c4 c5 c6 c7 c8 c9 c10 c11 c12
  have c0 := HA.out.cell 0 _ rfl
  have c11 := HA.out.cell 11 _ rfl
  have c12 := HA.out.cell 12 _ rfl
  obtain ⟨x, hx⟩ : ∃ x, x = cfgB de qu wi ti qa bu le pb pc pj pt := ⟨_, rfl⟩
  rw [← hx]
  have HX := Lib.hid hx
  clear hx
  cases x with
  | false =>
    have HNP := Lib.hid (show ¬ (specP de qu wi ti qa bu le pb pc pj pt nw la en kn tu fn rn tk ac dr E K F R) from fun h => by have := cfgB_yes h.1; rw [← HX.out] at this; cases this)
    go_wp2_with fail
    go_ret
    exact bend_no HNP.out HL.out
  | true =>
  have HCF := Lib.hid (show CfgOk de qu wi ti qa bu le pb pc pj pt from of_decide_eq_true HX.out.symm)
  clear HX
  have hde := And.intro HCF.out.1 HCF.out.2.1
  have hw1 : IntKind.i64.wrap (de - 1) = de - 1 := IntWalk.i64_in _ (by omega)
  go_wp2_with fail
  refine (in_any nw 0 1000000000 _).mono ?_
  rintro e v ⟨rfl, hb⟩
  subst hb
  cases hin : inB 0 1000000000 nw with
  | false =>
    have HNP := Lib.hid (show ¬ (specP de qu wi ti qa bu le pb pc pj pt nw la en kn tu fn rn tk ac dr E K F R) from fun h => inB_no hin h.2.1)
    go_wp2_with fail
    go_ret
    exact bend_no HNP.out HL.out
  | true =>
  have GNW := Lib.hid (inB_yes hin)
  clear hin
  go_wp2_with fail
  refine (in_any la 0 9999 _).mono ?_
  rintro e v ⟨rfl, hb⟩
  subst hb
  cases hin : inB 0 9999 la with
  | false =>
    have HNP := Lib.hid (show ¬ (specP de qu wi ti qa bu le pb pc pj pt nw la en kn tu fn rn tk ac dr E K F R) from fun h => inB_no hin h.2.2.1)
    go_wp2_with fail
    go_ret
    exact bend_no HNP.out HL.out
  | true =>
  have GLA := Lib.hid (inB_yes hin)
  clear hin

  go_wp2_with (first | (refine wpList_loadg_box (by rfl) _ 33 rfl rfl HA.out _ Try.underlying33 sizeGate ?_) | fail)
  refine (specLinks_any _ de qu wi ti qa bu le pb pc pj pt nw la ea en ec ka kn kc tu fa fn fc ra rn rc tk ac dr E K F R (by omega) HT.out).mono ?_
  rintro e v0 ⟨⟨x, rfl, hx⟩, hb⟩
  replace HA := Lib.hid (HA.out.below hb)
  replace HL := Lib.hid (low_after HL.out hb)
  replace HT := Lib.hid (HT.out.here hb)
  have HX := Lib.hid hx
  clear hx hb c0 c11 c12
  have c0 := HA.out.cell 0 _ rfl
  have c11 := HA.out.cell 11 _ rfl
  have c12 := HA.out.cell 15 _ rfl
  cases x with
  | false =>
    have HNP := Lib.hid (show ¬ (specP de qu wi ti qa bu le pb pc pj pt nw la en kn tu fn rn tk ac dr E K F R) from fun h => by have := HX.out.2 h.2.2.2.1; cases this)
    go_wp2_with fail
    go_ret
    exact bend_no HNP.out HL.out
  | true =>
  have P0 := Lib.hid (HX.out.1 rfl)
  clear HX
  go_wp2_with (first | (refine wpList_loadg_box (by rfl) _ 33 rfl rfl HA.out _ Try.underlying33 sizeGate ?_) | fail)
  refine (specEvents_any _ de qu wi ti qa bu le pb pc pj pt nw la ea en ec ka kn kc tu fa fn fc ra rn rc tk ac dr E K F R P0.out.1 (fun k hk => by obtain ⟨i, hi, rfl⟩ := List.mem_iff_getElem.1 hk; have h1 := P0.out.2.1; have h2 := P0.out.1; have h3 := HT.out.lk.hlen; have h4 := HT.out.lf.hlen; have := (P0.out.2.2 i hi (by omega)).1.len; omega) HT.out).mono ?_
  rintro e v1 ⟨⟨x, rfl, hx⟩, hb⟩
  replace HA := Lib.hid (HA.out.below hb)
  replace HL := Lib.hid (low_after HL.out hb)
  replace HT := Lib.hid (HT.out.here hb)
  have HX := Lib.hid hx
  clear hx hb c0 c11 c12
  have c0 := HA.out.cell 0 _ rfl
  have c11 := HA.out.cell 11 _ rfl
  have c12 := HA.out.cell 15 _ rfl
  cases x with
  | false =>
    have HNP := Lib.hid (show ¬ (specP de qu wi ti qa bu le pb pc pj pt nw la en kn tu fn rn tk ac dr E K F R) from fun h => by have := HX.out.2 h.2.2.2.2.1; cases this)
    go_wp2_with fail
    go_ret
    exact bend_no HNP.out HL.out
  | true =>
  have P1 := Lib.hid (HX.out.1 rfl)
  clear HX
  have hen : en ≤ 60 := P1.out.1
  have HN := Lib.hid HT.out.ev.row.hlen
  have HT00 := Lib.hid (show GIs w.heap.size w ea en ka kn fa fn ra rn E K F R from HT0.out)
  go_wp2_with fail
  refine (in_any tu 0 (de - 1) _).mono ?_
  rintro e v ⟨rfl, hb⟩
  subst hb
  cases hin : inB 0 (de - 1) tu with
  | false =>
    have HNP := Lib.hid (show ¬ (specP de qu wi ti qa bu le pb pc pj pt nw la en kn tu fn rn tk ac dr E K F R) from fun h => inB_no hin h.2.2.2.2.2.1)
    go_wp2_with fail
    go_ret
    exact bend_no HNP.out HL.out
  | true =>
  have GTU := Lib.hid (inB_yes hin)
  clear hin
  clear c0 c11 c12
  obtain ⟨dn, rfl⟩ : ∃ dn : Nat, de = (dn : Int) := ⟨de.toNat, by omega⟩
  have HDN := Lib.hid (show deadN E (dn : Int).toNat = deadN E dn from rfl)
  go_upto_region 5 with fail
  clear hw1
  go_loopw [3, 4] (fun dv i wr => ∃ k m : Nat, k ≤ dn ∧ i = .int .i64 ((k : Int) + 1) ∧ dv = .int .i64 m ∧ Hid (m = deadN E k) ∧ Hid (Below w.heap.size w wr) ∧ Hid (Box wr w.heap.size 33 [.int .i64 (dn : Int), .int .i64 qu, .int .i64 wi, .int .i64 ti, .int .i64 qa, .int .i64 bu, .int .i64 le, .int .i64 pb, .int .i64 pc, .int .i64 pj, .int .i64 pt, .int .i64 nw, .int .i64 la, .slice ea en ec, .slice ka kn kc, .int .i64 tu, .slice fa fn fc, .slice ra rn rc, .int .i64 tk, .int .i64 ac, .int .i64 dr])) (fun _ i _ => dn + 1 - (intOf i).toNat)
  case atStart => exact ⟨0, 0, by omega, rfl, rfl, Lib.hid rfl, HL, HA⟩
  case round =>
    obtain ⟨k, m, hk, rfl, rfl, HM, HB, HX⟩ := hrel
    have c0 := HX.out.cell 0 _ rfl
    by_cases hlt : (k : Int) + 1 ≤ (dn : Int)
    · have hmb : m ≤ 6 * 60 := by
        have h1 := deadN_le E k
        have h2 := HM.out
        have h3 := HN.out
        have h4 : k * E.length ≤ 6 * 60 := Nat.mul_le_mul (by omega) (by omega)
        omega
      have HTL := Lib.hid (HT00.out.here HB.out)
      go_wp2_with (first | (refine wpList_load_box rfl _ 33 rfl rfl HX.out _ Try.underlying33 sizeGate ?_) | fail)
      refine (count_any _ (dn : Int) qu wi ti qa bu le pb pc pj pt nw la ea en ec ka kn kc tu fa fn fc ra rn rc tk ac dr E K F R ((k : Int) + 1) 3 HTL.out).mono ?_
      rintro e v ⟨rfl, hb⟩
      have HB2 := Lib.hid (low_after HB.out hb)
      have HX2 := Lib.hid (HX.out.below hb)
      have hq := cntN_le ((k : Int) + 1) 3 E
      obtain ⟨q, hqq⟩ : ∃ q, q = cntN ((k : Int) + 1) 3 E := ⟨_, rfl⟩
      rw [← hqq] at hq ⊢
      have hqb : q ≤ 60 := by have := HN.out; omega
      have HQ := Lib.hid hqq
      have hw3 : IntKind.i64.wrap ((m : Int) + (q : Int)) = (m : Int) + (q : Int) := IntWalk.i64_in _ (by omega)
      have hw4 : IntKind.i64.wrap ((k : Int) + 1 + 1) = (k : Int) + 1 + 1 := IntWalk.i64_in _ (by omega)
      have HM2 := Lib.hid (show m + q = deadN E (k + 1) by rw [HM.out, HQ.out]; rfl)
      clear hb hqq hq c0
      go_wp2_with fail
      go_roundw
      case rel => exact ⟨k + 1, m + q, by omega, by go_num, by go_num, HM2, by trivial⟩
      case measure => simp [intOf]; omega
    · have hkd : k = dn := by omega
      have HDM := Lib.hid (show m = deadN E (dn : Int).toNat by rw [HDN.out, ← hkd]; exact HM.out)
      clear hkd
      have c6 := HX.out.cell 6 _ rfl
      have c13 := HX.out.cell 13 _ rfl
      have c17 := HX.out.cell 17 _ rfl
      have c18 := HX.out.cell 18 _ rfl
      have c19 := HX.out.cell 19 _ rfl
      have c20 := HX.out.cell 20 _ rfl
      by_cases hle : le < (rn : Int)
      · have HNP := Lib.hid (show ¬ (specP (dn : Int) qu wi ti qa bu le pb pc pj pt nw la en kn tu fn rn tk ac dr E K F R) from fun h => by have h1 := h.2.2.2.2.2.2.1.1; omega)
        go_wp2_with fail
        go_ret
        exact bend_no HNP.out HB.out
      have HLE := Lib.hid (show (rn : Int) ≤ le by omega)
      cases hrm : ((rn : Int) != (m : Int)) with
      | true =>
        have HNP := Lib.hid (show ¬ (specP (dn : Int) qu wi ti qa bu le pb pc pj pt nw la en kn tu fn rn tk ac dr E K F R) from fun h => by have h1 := h.2.2.2.2.2.2.1.2; rw [← HDM.out] at h1; have h2 := (by simpa using hrm : (rn : Int) ≠ (m : Int)); omega)
        go_wp2_with fail
        go_ret
        exact bend_no HNP.out HB.out
      | false =>
      have HRM := Lib.hid (show rn = deadN E (dn : Int).toNat by rw [← HDM.out]; have h2 := (by simpa using hrm : (rn : Int) = (m : Int)); omega)
      go_wp2_with fail
      refine (in_any tk 0 9999 _).mono ?_
      rintro e v ⟨rfl, hb⟩
      subst hb
      cases hin : inB 0 9999 tk with
      | false =>
        have HNP := Lib.hid (show ¬ (specP (dn : Int) qu wi ti qa bu le pb pc pj pt nw la en kn tu fn rn tk ac dr E K F R) from fun h => inB_no hin h.2.2.2.2.2.2.2.1)
        go_wp2_with fail
        go_ret
        exact bend_no HNP.out HB.out
      | true =>
      have GTK := Lib.hid (inB_yes hin)
      clear hin
      go_wp2_with fail
      refine (in_any ac 0 9999 _).mono ?_
      rintro e v ⟨rfl, hb⟩
      subst hb
      cases hin : inB 0 9999 ac with
      | false =>
        have HNP := Lib.hid (show ¬ (specP (dn : Int) qu wi ti qa bu le pb pc pj pt nw la en kn tu fn rn tk ac dr E K F R) from fun h => inB_no hin h.2.2.2.2.2.2.2.2.1)
        go_wp2_with fail
        go_ret
        exact bend_no HNP.out HB.out
      | true =>
      have GAC := Lib.hid (inB_yes hin)
      clear hin
      go_wp2_with fail
      refine (in_any dr 0 9999 _).mono ?_
      rintro e v ⟨rfl, hb⟩
      subst hb
      cases hin : inB 0 9999 dr with
      | false =>
        have HNP := Lib.hid (show ¬ (specP (dn : Int) qu wi ti qa bu le pb pc pj pt nw la en kn tu fn rn tk ac dr E K F R) from fun h => inB_no hin h.2.2.2.2.2.2.2.2.2.1)
        go_wp2_with fail
        go_ret
        exact bend_no HNP.out HB.out
      | true =>
      have GDR := Lib.hid (inB_yes hin)
      clear hin
      have hw5 : IntKind.i64.wrap ((en : Int) + ac) = (en : Int) + ac := IntWalk.i64_in _ (by have := GAC.out; omega)
      have hw6 : IntKind.i64.wrap ((en : Int) + ac + dr) = (en : Int) + ac + dr := IntWalk.i64_in _ (by have := GAC.out; have := GDR.out; omega)
      cases hbb : (tk == (en : Int) + ac + dr) with
      | true =>
        have HY := Lib.hid (show (specP (dn : Int) qu wi ti qa bu le pb pc pj pt nw la en kn tu fn rn tk ac dr E K F R) from ⟨HCF.out, GNW.out, GLA.out, P0.out, P1.out, GTU.out, ⟨HLE.out, HRM.out⟩, GTK.out, GAC.out, GDR.out, by simpa using hbb⟩)
        go_wp2_with fail
        go_ret
        exact bend_yes HY.out HB.out
      | false =>
        have HNP := Lib.hid (show ¬ (specP (dn : Int) qu wi ti qa bu le pb pc pj pt nw la en kn tu fn rn tk ac dr E K F R) from fun h => by have h1 := h.2.2.2.2.2.2.2.2.2.2; rw [h1] at hbb; simp at hbb)
        go_wp2_with fail
        go_ret
        exact bend_no HNP.out HB.out

end Go.Proofs.Ytecfomaapomncaa.Gat
