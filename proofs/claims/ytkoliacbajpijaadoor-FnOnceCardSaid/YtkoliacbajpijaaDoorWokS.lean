/-
  The walk of the specification's WheelOk.
-/
import Derived.Test.YtkoliacbajpijaaDoorWokA
import Derived.Test.YtkoliacbajpijaaDoorLvlW
namespace Go.Proofs.YtkoliacbajpijaaDoor.Whl
open Go.RowKit
set_option linter.unusedVariables false

theorem ahead_any (x0 y0 x1 y1 : Int) (w : World) :
    Calls Tryd.prog 48 #[.agg #[.int .i64 x0, .int .i64 y0], .agg #[.int .i64 x1, .int .i64 y1]] w fun e w' => e = .returned (.bool (decide (ahd (x0, y0) (x1, y1)))) ∧ Below w.heap.size w w' := by
  have hb0 : ∀ o1 o2, Below w.heap.size w ((w.alloc o1).alloc o2) := fun o1 o2 => ((Below.refl _ _).alloc (Nat.le_refl _) _).alloc (by simp) _
  have H0 := Lib.hid hb0
  clear hb0
  by_cases h1 : x0 < x1
  · rw [decide_eq_true (show ahd (x0, y0) (x1, y1) from .inl h1)]
    go_enter Tryd.func48, Tryd.ntmps48
    go_wp2
    go_ret
    exact ⟨rfl, H0.out _ _⟩
  · have d1 : decide (x0 < x1) = false := by simpa using h1
    by_cases h2 : x0 = x1
    · by_cases h3 : y0 < y1
      · rw [decide_eq_true (show ahd (x0, y0) (x1, y1) from .inr ⟨h2, h3⟩)]
        subst h2
        clear h1
        go_enter Tryd.func48, Tryd.ntmps48
        go_wp2
        go_ret
        exact ⟨rfl, H0.out _ _⟩
      · rw [decide_eq_false (show ¬ ahd (x0, y0) (x1, y1) from fun h => h.elim h1 (fun h => h3 h.2))]
        have d3 : decide (y0 < y1) = false := by simpa using h3
        subst h2
        clear h1 h3
        go_enter Tryd.func48, Tryd.ntmps48
        go_wp2
        go_ret
        exact ⟨rfl, H0.out _ _⟩
    · rw [decide_eq_false (show ¬ ahd (x0, y0) (x1, y1) from fun h => h.elim h1 (fun h => h2 h.1))]
      have d2 : (x0 == x1) = false := by simpa using h2
      clear h1 h2
      go_enter Tryd.func48, Tryd.ntmps48
      go_wp2
      go_ret
      exact ⟨rfl, H0.out _ _⟩
theorem ahead_yes (a b : T) (w : World) (h : ahd a b) :
    Calls Tryd.prog 48 #[.agg #[.int .i64 a.1, .int .i64 a.2], .agg #[.int .i64 b.1, .int .i64 b.2]] w fun e w' => e = .returned (.bool true) ∧ Below w.heap.size w w' := by
  have := ahead_any a.1 a.2 b.1 b.2 w
  rwa [decide_eq_true h] at this
theorem ahead_no (a b : T) (w : World) (h : ¬ ahd a b) :
    Calls Tryd.prog 48 #[.agg #[.int .i64 a.1, .int .i64 a.2], .agg #[.int .i64 b.1, .int .i64 b.2]] w fun e w' => e = .returned (.bool false) ∧ Below w.heap.size w w' := by
  have := ahead_any a.1 a.2 b.1 b.2 w
  rwa [decide_eq_false h] at this

set_option maxRecDepth 100000 in
set_option maxHeartbeats 1000000 in
theorem specWheelOk_any (w : World) (a : Option Addr) (len cap : Nat) (now : Int) (l : List T) (h : TIs w.heap.size w a len l) :
    Calls Tryd.prog 17 #[.agg #[.int .i64 now, .slice a len cap]] w fun e w' => e = .returned (.bool (wokB now l)) ∧ Below w.heap.size w w' := by
  have HBX := Lib.hid (bOne w (.cells #[.int .i64 now, .slice a len cap] 26))
  have HT := Lib.hid h
  have HL := Lib.hid h.hlen
  have hle := h.le
  unfold maxLen at hle
  have HA := Lib.hid (Bx.new w (.int .i64 now) (.slice a len cap) 26)
  have HW := Lib.hid (wok_iff now l)
  clear h
  go_enter Tryd.func17, Tryd.ntmps17
  go_wp2_with fail
  go_loopw [3] (fun i wr => ∃ k : Nat, k ≤ len ∧ k ≤ 61 ∧ i = .int .i64 k ∧ Hid (∀ j, j < k → stepOk now l j) ∧ Hid (Below w.heap.size w wr) ∧ Hid (Bx wr w.heap.size (.int .i64 now) (.slice a len cap))) (fun i _ => 61 - (intOf i).toNat)
  case atStart => exact ⟨0, by omega, by omega, rfl, Lib.hid (by omega), HBX, HA⟩
  case round =>
    obtain ⟨k, hk, hk61, rfl, HS, HB, HBx⟩ := hrel
    obtain ⟨c0, c1, hltw⟩ := HBx.out
    by_cases hgo : (k : Int) < (len : Int) ∧ (k : Int) ≤ 60
    · obtain ⟨hlt, hk60⟩ := hgo
      have hkl : k < l.length := by have := HL.out; omega
      obtain ⟨b, off, rfl, hbw, cx, cy⟩ := (HT.out.below HB.out).cell k hkl
      obtain ⟨x, hx⟩ : ∃ x, x = l[k].1 := ⟨_, rfl⟩
      obtain ⟨y, hy⟩ : ∃ y, y = l[k].2 := ⟨_, rfl⟩
      have hxy : l.getD k (0, 0) = (x, y) := by rw [hx, hy, List.getD_eq_getElem?_getD, List.getElem?_eq_getElem hkl]; rfl
      rw [← hx] at cx
      rw [← hy] at cy
      have HXY := Lib.hid hxy
      clear hx hy hxy
      have HB1 := Lib.hid (bOne wr (.cells #[.int .i64 x, .int .i64 y] 28))
      have HX1 := Lib.hid (Bx.new wr (.int .i64 x) (.int .i64 y) 28)
      have HBx1 := Lib.hid (HBx.out.below HB1.out)
      have HBB1 := Lib.hid (bAfter HB.out HB1.out HB.out.size)
      go_wp2_with fail
      by_cases h1 : now < x
      · have d1 : decide (x ≤ now) = false := by simp; omega
        by_cases h2 : x ≤ 1000000000
        · have d2 : decide (1000000000 < x) = false := by simp; omega
          by_cases h3 : 1 ≤ y ∧ y ≤ 9999
          · have HOK := Lib.hid (show tOk now (x, y) from ⟨h1, h2, h3.1, h3.2⟩)
            have HY := Lib.hid h3
            clear h1 h2 h3
            by_cases hk0 : k = 0
            · have HPREV := Lib.hid (show 0 < k → ahd (l.getD (k - 1) (0, 0)) (x, y) from fun h => by omega)
              subst hk0
              go_quiet ((go_at_call 50; exact (in_yes y 1 9999 _ HY.out.1 HY.out.2).mono fun e w' ⟨h1, h2⟩ => ⟨h1, _, h2.symm⟩))
              have HB3 := Lib.hid (below_drewN HBB1.out nq)
              have HBx3 := Lib.hid (show Bx ((wr.alloc (.cells #[.int .i64 x, .int .i64 y] 28)).drewN nq) w.heap.size (.int .i64 now) (.slice (some ⟨b, off, none⟩) len cap) from ⟨HBx1.out.c0, HBx1.out.c1, HBx1.out.lt⟩)
              have HX3 := Lib.hid (show Bx ((wr.alloc (.cells #[.int .i64 x, .int .i64 y] 28)).drewN nq) wr.heap.size (.int .i64 x) (.int .i64 y) from ⟨HX1.out.c0, HX1.out.c1, HX1.out.lt⟩)
              obtain ⟨w3, hw3⟩ : ∃ w3, w3 = (wr.alloc (.cells #[.int .i64 x, .int .i64 y] 28)).drewN nq := ⟨_, rfl⟩
              rw [← hw3] at HB3 HBx3 HX3 ⊢
              clear hw3 c0 c1 hltw
              go_wp2_with fail
              go_loopw [5] (fun i wr' => ∃ j : Nat, j ≤ 0 ∧ i = .int .i64 j ∧ Hid (∀ i, i < j → (l.getD i (0, 0)).2 ≠ y) ∧ Hid (Below w.heap.size w wr') ∧ Hid (Bx wr' w.heap.size (.int .i64 now) (.slice (some ⟨b, off, none⟩) len cap)) ∧ Hid (Bx wr' wr.heap.size (.int .i64 x) (.int .i64 y))) (fun i _ => 0 - (intOf i).toNat)
              case atStart => exact ⟨0, by omega, rfl, Lib.hid (by omega), HB3, HBx3, HX3⟩
              case round =>
                obtain ⟨j, hj, rfl, HNE, HBI, HBxI, HXI⟩ := hrel
                obtain ⟨c0, c1, hltw⟩ := HBxI.out
                obtain ⟨d0, d1, hltx⟩ := HXI.out
                by_cases hjk : (j : Int) < ((0 : Nat) : Int)
                · exact absurd hjk (by omega)
                · have hstep := step_of hkl HXY.out HOK.out HPREV.out (fun hm => by
                    obtain ⟨i, hi, he⟩ := (seen_iff hkl y).1 hm
                    exact HNE.out i (by omega) he)
                  have HSTEP := Lib.hid hstep
                  clear hstep
                  go_wp2_with fail
                  go_roundw
                  case rel =>
                    refine ⟨0 + 1, by omega, by omega, by go_num, Lib.hid (fun i hi => ?_), HBI, HBxI⟩
                    by_cases hij : i = 0
                    · subst hij; exact HSTEP.out
                    · exact HS.out i (by omega)
                  case measure => simp [intOf]
            · obtain ⟨m, rfl⟩ : ∃ m, k = m + 1 := ⟨k - 1, by omega⟩
              obtain ⟨b', off', e', hbw', px, py⟩ := (HT.out.below HBB1.out).cell m (by omega)
              obtain ⟨rfl, rfl⟩ : b = b' ∧ off = off' := by simpa using e'
              obtain ⟨x', hx'⟩ : ∃ x, x = l[m].1 := ⟨_, rfl⟩
              obtain ⟨y', hy'⟩ : ∃ y, y = l[m].2 := ⟨_, rfl⟩
              rw [← hx'] at px
              rw [← hy'] at py
              have hprev : l.getD (m + 1 - 1) (0, 0) = (x', y') := by rw [hx', hy', Nat.add_sub_cancel, getD_at (by omega)]
              have HPV := Lib.hid hprev
              clear hprev hx' hy' e' hk0
              have hlb : b < (wr.alloc (.cells #[.int .i64 x, .int .i64 y] 28)).heap.size := Nat.lt_of_lt_of_le hbw' HBB1.out.size
              have hs1 : IntKind.i64.wrap ((m : Int) + 1 - 1) = (m : Int) := by rw [IntWalk.i64_in _ (by omega)]; omega
              have hs1' : IntKind.i64.wrap (m : Int) = (m : Int) := IntWalk.i64_in _ (by omega)
              have hs0 : (0 : Int) ≤ (m : Int) := by omega
              have hs2 : (0 : Int) < (m : Int) + 1 := by omega
              have hs3 : (m : Int) < (len : Int) := by omega
              by_cases hah : ahd (x', y') (x, y)
              · have HAH := Lib.hid hah
                have HPREV := Lib.hid (show 0 < m + 1 → ahd (l.getD (m + 1 - 1) (0, 0)) (x, y) from fun _ => by rw [HPV.out]; exact HAH.out)
                clear hah
                have e1 := HBx1.out
                obtain ⟨e0, e1, elt⟩ := e1
                obtain ⟨d0, d1', dlt⟩ := HX1.out
                go_region_held3 (fun w' => w'.cell? ⟨w.heap.size, 0, none⟩ = some (.int .i64 now) ∧ w'.cell? ⟨w.heap.size, 1, none⟩ = some (.slice (some ⟨b, off, none⟩) len cap) ∧ w'.cell? ⟨b, off + m * 2, none⟩ = some (.int .i64 x') ∧ w'.cell? ⟨b, off + m * 2 + 1, none⟩ = some (.int .i64 y') ∧ w'.cell? ⟨wr.heap.size, 0, none⟩ = some (.int .i64 x) ∧ w'.cell? ⟨wr.heap.size, 1, none⟩ = some (.int .i64 y))
                  (first
                    | go_keep
                    | (go_split_ands; exact ⟨below_keep hb3 (Nat.le_refl _) elt ‹_›, below_keep hb3 (Nat.le_refl _) elt ‹_›, below_keep hb3 (Nat.le_refl _) hlb ‹_›, below_keep hb3 (Nat.le_refl _) hlb ‹_›, below_keep hb3 (Nat.le_refl _) dlt ‹_›, below_keep hb3 (Nat.le_refl _) dlt ‹_›⟩))
                  (first
                    | (go_at_call 50; refine (in_yes y 1 9999 _ HY.out.1 HY.out.2).mono ?_; rintro e w' ⟨rfl, rfl⟩)
                    | (go_at_call 48; refine (ahead_yes (x', y') (x, y) _ HAH.out).mono ?_; rintro e w3 ⟨rfl, hb3⟩))
                clear e0 e1 elt d0 d1' dlt
                have HB3 := Lib.hid (bAfter (below_drew' HBB1.out) hb3 HBB1.out.size)
                have HBD := Lib.hid (show Below (wr.alloc (.cells #[.int .i64 x, .int .i64 y] 28)).heap.size (wr.alloc (.cells #[.int .i64 x, .int .i64 y] 28)) w3 from bAfter (below_drew' (Below.refl _ _)) hb3 (Nat.le_refl _))
                have HBx3 := Lib.hid (HBx1.out.below HBD.out)
                have HX3 := Lib.hid (HX1.out.below HBD.out)
                clear hb3 c0 c1 hltw px py cx cy
                go_wp2_with fail
                go_loopw [5] (fun i wr' => ∃ j : Nat, j ≤ m + 1 ∧ i = .int .i64 j ∧ Hid (∀ i, i < j → (l.getD i (0, 0)).2 ≠ y) ∧ Hid (Below w.heap.size w wr') ∧ Hid (Bx wr' w.heap.size (.int .i64 now) (.slice (some ⟨b, off, none⟩) len cap)) ∧ Hid (Bx wr' wr.heap.size (.int .i64 x) (.int .i64 y))) (fun i _ => m + 1 - (intOf i).toNat)
                case atStart => exact ⟨0, by omega, rfl, Lib.hid (by omega), HB3, HBx3, HX3⟩
                case round =>
                  obtain ⟨j, hj, rfl, HNE, HBI, HBxI, HXI⟩ := hrel
                  obtain ⟨c0, c1, hltw⟩ := HBxI.out
                  obtain ⟨d0, d1, hltx⟩ := HXI.out
                  by_cases hjk : (j : Int) < (m : Int) + 1
                  · obtain ⟨b', off', e', hbw', px, py⟩ := (HT.out.below HBI.out).cell j (by omega)
                    obtain ⟨rfl, rfl⟩ : b = b' ∧ off = off' := by simpa using e'
                    obtain ⟨y', hy'⟩ : ∃ y, y = l[j].2 := ⟨_, rfl⟩
                    rw [← hy'] at py
                    have hyg : (l.getD j (0, 0)).2 = y' := by rw [hy', getD_at (by omega)]
                    have HYG := Lib.hid hyg
                    have hjl : (j : Int) < (len : Int) := by omega
                    clear hyg hy' e' px
                    by_cases hyy : y' = y
                    · have HYY := Lib.hid hyy
                      have hb1 : (y' == y) = true := by simpa using hyy
                      clear hyy
                      go_wp2_with fail
                      go_quiet (fail)
                      go_wp2_with fail
                      go_ret
                      exact ⟨by rw [wok_not hkl (fun hs => hs.2.2 j (by omega) (by rw [HYG.out, HYY.out, HXY.out]))]; rfl, below_drewN HBI.out _⟩
                    · have HYY := Lib.hid hyy
                      have hb1 : (y' == y) = false := by simpa using hyy
                      clear hyy
                      go_wp2_with fail
                      go_quiet (fail)
                      go_wp2_with fail
                      go_roundw
                      case rel =>
                        refine ⟨j + 1, by omega, by go_num, Lib.hid (fun i hi => ?_), Lib.hid (below_drewN HBI.out _), Lib.hid ⟨HBxI.out.c0, HBxI.out.c1, HBxI.out.lt⟩, Lib.hid ⟨HXI.out.c0, HXI.out.c1, HXI.out.lt⟩⟩
                        by_cases hij : i = j
                        · subst hij; rw [HYG.out]; exact HYY.out
                        · exact HNE.out i (by omega)
                      case measure => simp [intOf]; omega
                  · have hstep := step_of hkl HXY.out HOK.out HPREV.out (fun hm => by
                      obtain ⟨i, hi, he⟩ := (seen_iff hkl y).1 hm
                      exact HNE.out i (by omega) he)
                    have HSTEP := Lib.hid hstep
                    clear hstep
                    go_wp2_with fail
                    go_roundw
                    case rel =>
                      refine ⟨m + 1 + 1, by omega, by omega, by go_num, Lib.hid (fun i hi => ?_), HBI, HBxI⟩
                      by_cases hij : i = m + 1
                      · subst hij; exact HSTEP.out
                      · exact HS.out i (by omega)
                    case measure => simp [intOf]; omega
              · have HAH := Lib.hid hah
                clear hah
                have e1 := HBx1.out
                obtain ⟨e0, e1, elt⟩ := e1
                obtain ⟨d0, d1', dlt⟩ := HX1.out
                go_region_held3 (fun w' => w'.cell? ⟨w.heap.size, 0, none⟩ = some (.int .i64 now) ∧ w'.cell? ⟨w.heap.size, 1, none⟩ = some (.slice (some ⟨b, off, none⟩) len cap) ∧ w'.cell? ⟨b, off + m * 2, none⟩ = some (.int .i64 x') ∧ w'.cell? ⟨b, off + m * 2 + 1, none⟩ = some (.int .i64 y') ∧ w'.cell? ⟨wr.heap.size, 0, none⟩ = some (.int .i64 x) ∧ w'.cell? ⟨wr.heap.size, 1, none⟩ = some (.int .i64 y))
                  (first
                    | go_keep
                    | (go_split_ands; exact ⟨below_keep hb3 (Nat.le_refl _) elt ‹_›, below_keep hb3 (Nat.le_refl _) elt ‹_›, below_keep hb3 (Nat.le_refl _) hlb ‹_›, below_keep hb3 (Nat.le_refl _) hlb ‹_›, below_keep hb3 (Nat.le_refl _) dlt ‹_›, below_keep hb3 (Nat.le_refl _) dlt ‹_›⟩))
                  (first
                    | (go_at_call 50; refine (in_yes y 1 9999 _ HY.out.1 HY.out.2).mono ?_; rintro e w' ⟨rfl, rfl⟩)
                    | (go_at_call 48; refine (ahead_no (x', y') (x, y) _ HAH.out).mono ?_; rintro e w3 ⟨rfl, hb3⟩))
                clear e0 e1 elt d0 d1' dlt
                go_wp2_with fail
                go_ret
                exact ⟨by rw [wok_not hkl (fun hs => HAH.out (HPV.out ▸ step_ahd HXY.out hs (by omega)))]; rfl, bAfter (below_drew' HBB1.out) hb3 HBB1.out.size⟩
          · have HY := Lib.hid (show y < 1 ∨ 9999 < y by omega)
            clear h1 h2 h3
            go_quiet ((go_at_call 50; exact (in_no y 1 9999 _ HY.out).mono fun e w' ⟨h1, h2⟩ => ⟨h1, _, h2.symm⟩))
            go_wp2_with fail
            go_ret
            exact ⟨by rw [wok_not hkl (fun hs => by have h5 : 1 ≤ y := (step_tok HXY.out hs).2.2.1; have h6 : y ≤ 9999 := (step_tok HXY.out hs).2.2.2; have := HY.out; omega)]; rfl, below_drewN HBB1.out _⟩
        · have d2 : decide (1000000000 < x) = true := by simp; omega
          have H2 := Lib.hid h2
          clear h1 h2
          go_quiet (fail)
          go_wp2_with fail
          go_ret
          exact ⟨by rw [wok_not hkl (fun hs => by have h4 := (step_tok HXY.out hs).2.1; have := H2.out; simp only at h4; omega)]; rfl, below_drewN HBB1.out _⟩
      · have d1 : decide (x ≤ now) = true := by simp; omega
        have H1 := Lib.hid h1
        clear h1
        go_quiet (fail)
        go_wp2_with fail
        go_ret
        exact ⟨by rw [wok_not hkl (fun hs => by have h4 := (step_tok HXY.out hs).1; have := H1.out; simp only at h4; omega)]; rfl, below_drewN HBB1.out _⟩
    · by_cases hkl : (k : Int) < (len : Int)
      · have hk61' : k = 61 := by omega
        subst hk61'
        have HV := Lib.hid (wokB_false (now := now) (l := l) (fun hw => by have := hw.len; have := HL.out; omega))
        have d60 : decide ((len : Int) ≤ 60) = false := by simp; omega
        clear hgo
        by_cases hn : 0 ≤ now ∧ now ≤ 1000000000
        · have HN := Lib.hid hn
          clear hn
          go_wp2_with fail
          refine (in_yes now 0 1000000000 _ HN.out.1 HN.out.2).mono ?_
          rintro e w' ⟨rfl, rfl⟩
          go_wp2_with fail
          go_ret
          exact ⟨by rw [HV.out]; rfl, HB.out⟩
        · have HN := Lib.hid (show now < 0 ∨ 1000000000 < now by omega)
          clear hn
          go_wp2_with fail
          refine (in_no now 0 1000000000 _ HN.out).mono ?_
          rintro e w' ⟨rfl, rfl⟩
          go_wp2_with fail
          go_ret
          exact ⟨by rw [HV.out]; rfl, HB.out⟩
      · have hkk : k = len := by omega
        clear hgo
        subst hkk
        by_cases hn : 0 ≤ now ∧ now ≤ 1000000000
        · have HN := Lib.hid hn
          clear hn
          by_cases h60 : (k : Int) ≤ 60
          · have HV := Lib.hid (wokB_true (HW.out.2 ⟨HN.out.1, HN.out.2, by have := HL.out; omega, fun j hj => HS.out j (by have := HL.out; omega)⟩))
            go_wp2_with fail
            refine (in_yes now 0 1000000000 _ HN.out.1 HN.out.2).mono ?_
            rintro e w' ⟨rfl, rfl⟩
            go_wp2_with fail
            go_ret
            exact ⟨by rw [HV.out]; rfl, HB.out⟩
          · have HV := Lib.hid (wokB_false (now := now) (l := l) (fun hw => by have := hw.len; have := HL.out; omega))
            have d60 : decide ((k : Int) ≤ 60) = false := by simp; omega
            clear h60
            go_wp2_with fail
            refine (in_yes now 0 1000000000 _ HN.out.1 HN.out.2).mono ?_
            rintro e w' ⟨rfl, rfl⟩
            go_wp2_with fail
            go_ret
            exact ⟨by rw [HV.out]; rfl, HB.out⟩
        · have HN := Lib.hid (show now < 0 ∨ 1000000000 < now by omega)
          have HV := Lib.hid (wokB_false (now := now) (l := l) (fun hw => by have := hw.n0; have := hw.n1; have := HN.out; omega))
          clear hn
          go_wp2_with fail
          refine (in_no now 0 1000000000 _ HN.out).mono ?_
          rintro e w' ⟨rfl, rfl⟩
          go_wp2_with fail
          go_ret
          exact ⟨by rw [HV.out]; rfl, HB.out⟩
end Go.Proofs.YtkoliacbajpijaaDoor.Whl
