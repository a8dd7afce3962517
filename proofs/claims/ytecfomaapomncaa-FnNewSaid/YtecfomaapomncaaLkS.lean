/-
  The walk of the specification's LinkOk.
-/
import Derived.Test.YtecfomaapomncaaLkW
namespace Go.Proofs.Ytecfomaapomncaa.Lnk
open Go.RowKit
set_option linter.unusedVariables false

theorem in_yes (a lo hi : Int) (w : World) (h : lo ≤ a) (h2 : a ≤ hi) :
    Calls Try.prog 35 #[.int .i64 a, .int .i64 lo, .int .i64 hi] w fun e w' => e = .returned (.bool true) ∧ w = w' := by
  go_enter Try.func35, Try.ntmps35
  go_wp2
  go_ret
  exact ⟨rfl, rfl⟩
theorem in_no (a lo hi : Int) (w : World) (h : a < lo ∨ hi < a) :
    Calls Try.prog 35 #[.int .i64 a, .int .i64 lo, .int .i64 hi] w fun e w' => e = .returned (.bool false) ∧ w = w' := by
  by_cases h1 : a < lo
  · have h2 : decide (lo ≤ a) = false := by simp; omega
    clear h
    go_enter Try.func35, Try.ntmps35
    go_wp2
    go_ret
    exact ⟨rfl, rfl⟩
  · have h2 : lo ≤ a := by omega
    have h3 : decide (a ≤ hi) = false := by simp; omega
    clear h
    go_enter Try.func35, Try.ntmps35
    go_wp2
    go_ret
    exact ⟨rfl, rfl⟩

set_option maxRecDepth 100000 in
set_option maxHeartbeats 1000000 in
theorem specLinkOk_any (w : World) (a : Option Addr) (len cap : Nat) (up : Bool) (ep sq : Int) (l : List Y) (h : YIs w.heap.size w a len l) :
    Calls Try.prog 82 #[.agg #[.bool up, .int .i64 ep, .int .i64 sq, .slice a len cap]] w fun e w' => e = .returned (.bool (lokB up ep sq l)) ∧ Below w.heap.size w w' := by
  have HBX := Lib.hid (bOne w (.cells #[.bool up, .int .i64 ep, .int .i64 sq, .slice a len cap] 42))
  have HT := Lib.hid h
  have HL := Lib.hid h.hlen
  have hle := h.le
  unfold maxLen at hle
  have HA := Lib.hid (B4.new w up ep sq (.slice a len cap) 42)
  have HW := Lib.hid (lok_iff up ep sq l)
  clear h
  go_enter Try.func82, Try.ntmps82
  go_wp2_with fail
  go_loopw [3, 4] (fun pv i wr => ∃ (k : Nat) (p : Int), k ≤ len ∧ k ≤ 9 ∧ pv = .int .i64 p ∧ i = .int .i64 k ∧ Hid (lastS l k = p) ∧ Hid (∀ j, j < k → stepOk sq l j) ∧ Hid (Below w.heap.size w wr) ∧ Hid (B4 wr w.heap.size up ep sq (.slice a len cap))) (fun _ i _ => 9 - (intOf i).toNat)
  case atStart => exact ⟨0, 0, by omega, by omega, rfl, rfl, Lib.hid rfl, Lib.hid (by omega), HBX, HA⟩
  case round =>
    obtain ⟨k, p, hk, hk9, rfl, rfl, HP, HS, HB, HBx⟩ := hrel
    obtain ⟨c0, c1, c2, c3, hltw⟩ := HBx.out.cells
    by_cases hgo : (k : Int) < (len : Int) ∧ (k : Int) ≤ 8
    · obtain ⟨hlt, hk8⟩ := hgo
      have hkl : k < l.length := by have := HL.out; omega
      obtain ⟨b, off, rfl, hbw, cx, cy, cz⟩ := (HT.out.below HB.out).cell k hkl
      obtain ⟨x, hx⟩ : ∃ x, x = l[k].1 := ⟨_, rfl⟩
      obtain ⟨y, hy⟩ : ∃ y, y = l[k].2.1 := ⟨_, rfl⟩
      obtain ⟨z, hz⟩ : ∃ z, z = l[k].2.2 := ⟨_, rfl⟩
      have hxy : l.getD k (0, 0, 0) = (x, y, z) := by rw [hx, hy, hz, getD_at hkl]
      rw [← hx] at cx
      rw [← hy] at cy
      rw [← hz] at cz
      have HXY := Lib.hid hxy
      clear hx hy hz hxy
      have HB1 := Lib.hid (bOne wr (.cells #[.int .i64 x, .int .i64 y, .int .i64 z] 96))
      have HX1 := Lib.hid (Bf.new wr x y z 96)
      have HBx1 := Lib.hid (HBx.out.below HB1.out)
      have HBB1 := Lib.hid (bAfter HB.out HB1.out HB.out.size)
      by_cases h1 : x ≤ p
      · have HNO := Lib.hid (lok_not (up := up) (ep := ep) (sq := sq) hkl (fun hs => by have := (step_at HXY.out HP.out hs).1; omega))
        go_wp2_with fail
        go_ret
        exact ⟨by rw [HNO.out]; rfl, HBB1.out⟩
      have hd1 : decide (x ≤ p) = false := by simp; omega
      by_cases h2 : sq < x
      · have HNO := Lib.hid (lok_not (up := up) (ep := ep) (sq := sq) hkl (fun hs => by have := (step_at HXY.out HP.out hs).2.1; omega))
        go_wp2_with fail
        go_ret
        exact ⟨by rw [HNO.out]; rfl, HBB1.out⟩
      have hd2 : decide (sq < x) = false := by simp; omega
      have H12 := Lib.hid (And.intro h1 h2)
      clear h1 h2
      by_cases h3 : y < 1 ∨ 9999 < y
      · have HNO := Lib.hid (lok_not (up := up) (ep := ep) (sq := sq) hkl (fun hs => by have h4 : 1 ≤ y := (step_at HXY.out HP.out hs).2.2.1.1; have h5 : y ≤ 9999 := (step_at HXY.out HP.out hs).2.2.1.2.1; omega))
        have H3 := Lib.hid h3
        clear h3
        go_wp2_with fail
        refine (in_no y 1 9999 _ H3.out).mono ?_
        rintro e w' ⟨rfl, rfl⟩
        go_wp2_with fail
        go_ret
        exact ⟨by rw [HNO.out]; rfl, HBB1.out⟩
      have H3 := Lib.hid (show 1 ≤ y ∧ y ≤ 9999 by omega)
      clear h3
      by_cases h4 : z < 0 ∨ 2000000000 < z
      · have HNO := Lib.hid (lok_not (up := up) (ep := ep) (sq := sq) hkl (fun hs => by have h4 : 0 ≤ z := (step_at HXY.out HP.out hs).2.2.1.2.2.1; have h5 : z ≤ 2000000000 := (step_at HXY.out HP.out hs).2.2.1.2.2.2; omega))
        have H4 := Lib.hid h4
        clear h4
        go_wp2_with fail
        refine (in_yes y 1 9999 _ H3.out.1 H3.out.2).mono ?_
        rintro e w' ⟨rfl, rfl⟩
        go_wp2_with fail
        refine (in_no z 0 2000000000 _ H4.out).mono ?_
        rintro e w' ⟨rfl, rfl⟩
        go_wp2_with fail
        go_ret
        exact ⟨by rw [HNO.out]; rfl, HBB1.out⟩
      have HOK := Lib.hid (show fOk (x, y, z) from ⟨H3.out.1, H3.out.2, by simp only; omega, by simp only; omega⟩)
      have H4 := Lib.hid (show 0 ≤ z ∧ z ≤ 2000000000 by omega)
      clear h4
      go_wp2_with fail
      refine (in_yes y 1 9999 _ H3.out.1 H3.out.2).mono ?_
      rintro e w' ⟨rfl, rfl⟩
      go_wp2_with fail
      refine (in_yes z 0 2000000000 _ H4.out.1 H4.out.2).mono ?_
      rintro e w' ⟨rfl, rfl⟩
      go_wp2_with fail
      go_loopw [6] (fun i wr' => ∃ j : Nat, j ≤ k ∧ i = .int .i64 j ∧ Hid (∀ i, i < j → (l.getD i (0, 0, 0)).2.1 ≠ y) ∧ Hid (Below w.heap.size w wr') ∧ Hid (B4 wr' w.heap.size up ep sq (.slice (some ⟨b, off, none⟩) len cap)) ∧ Hid (Bf wr' wr.heap.size (x, y, z))) (fun i _ => k - (intOf i).toNat)
      case atStart => exact ⟨0, by omega, rfl, Lib.hid (by omega), HBB1, HBx1, HX1⟩
      case round =>
        obtain ⟨j, hj, rfl, HNE, HBI, HBxI, HXI⟩ := hrel
        clear c0 c1 c2 c3 hltw cx cy cz
        obtain ⟨c0, c1, c2, c3, hltw⟩ := HBxI.out.cells
        obtain ⟨d0, d1, d2, hltx⟩ := HXI.out
        by_cases hjk : (j : Int) < (k : Int)
        · obtain ⟨b', off', e', hbw', px, py, pz⟩ := (HT.out.below HBI.out).cell j (by omega)
          obtain ⟨rfl, rfl⟩ : b = b' ∧ off = off' := by simpa using e'
          obtain ⟨y', hy'⟩ : ∃ y, y = l[j].2.1 := ⟨_, rfl⟩
          rw [← hy'] at py
          have hyg : (l.getD j (0, 0, 0)).2.1 = y' := by rw [hy', getD_at (by omega)]
          have HYG := Lib.hid hyg
          have hjl : (j : Int) < (len : Int) := by omega
          clear hyg hy' e' px pz
          by_cases hyy : y' = y
          · have HNO := Lib.hid (lok_not (up := up) (ep := ep) (sq := sq) hkl (fun hs => (step_at HXY.out HP.out hs).2.2.2 ((seen_iff hkl y).2 ⟨j, by omega, by rw [HYG.out, hyy]⟩)))
            have hb1 : (y' == y) = true := by simpa using hyy
            clear hyy
            go_wp2_with fail
            go_quiet (fail)
            go_wp2_with fail
            go_ret
            exact ⟨by rw [HNO.out]; rfl, below_drewN HBI.out _⟩
          · have HYY := Lib.hid hyy
            have hb1 : (y' == y) = false := by simpa using hyy
            clear hyy
            go_wp2_with fail
            go_quiet (fail)
            go_wp2_with fail
            go_roundw
            case rel =>
              refine ⟨j + 1, by omega, by go_num, Lib.hid (fun i hi => ?_), Lib.hid (below_drewN HBI.out _), Lib.hid ⟨HBxI.out.c0, HBxI.out.c1, HBxI.out.c2, HBxI.out.c3, HBxI.out.lt⟩, Lib.hid ⟨HXI.out.c0, HXI.out.c1, HXI.out.c2, HXI.out.lt⟩⟩
              by_cases hij : i = j
              · subst hij; rw [HYG.out]; exact HYY.out
              · exact HNE.out i (by omega)
            case measure => simp [intOf]; omega
        · have HSTEP := Lib.hid (step_of (sq := sq) HXY.out HP.out (by have := H12.out; omega) (by have := H12.out; omega) HOK.out (fun hm => by
            obtain ⟨i, hi, he⟩ := (seen_iff hkl y).1 hm
            exact HNE.out i (by omega) he))
          go_wp2_with fail
          go_roundw
          case rel =>
            refine ⟨k + 1, x, by omega, by omega, rfl, by go_num, Lib.hid (last_next HXY.out), Lib.hid (fun i hi => ?_), HBI, HBxI⟩
            by_cases hij : i = k
            · subst hij; exact HSTEP.out
            · exact HS.out i (by omega)
          case measure => simp [intOf]; omega
    · by_cases hkl : (k : Int) < (len : Int)
      · have hk9' : k = 9 := by omega
        subst hk9'
        clear hgo
        by_cases hn : 0 ≤ ep ∧ ep ≤ 60000
        · have HN := Lib.hid hn
          clear hn
          by_cases hs : 0 ≤ sq ∧ sq ≤ 60000
          · have HQ := Lib.hid hs
            clear hs
            have HV := Lib.hid (lokB_false (up := up) (ep := ep) (sq := sq) (l := l) (fun hw => by have := hw.len; have := HL.out; omega))
            have d60 : decide ((len : Int) ≤ 8) = false := by simp; omega
            go_wp2_with fail
            refine (in_yes ep 0 60000 _ HN.out.1 HN.out.2).mono ?_
            rintro e w' ⟨rfl, rfl⟩
            go_wp2_with fail
            refine (in_yes sq 0 60000 _ HQ.out.1 HQ.out.2).mono ?_
            rintro e w' ⟨rfl, rfl⟩
            go_wp2_with fail
            go_ret
            exact ⟨by rw [HV.out]; rfl, HB.out⟩
          · have HQ := Lib.hid (show sq < 0 ∨ 60000 < sq by omega)
            have HV := Lib.hid (lokB_false (up := up) (ep := ep) (sq := sq) (l := l) (fun hw => by have := hw.s0; have := hw.s1; have := HQ.out; omega))
            clear hs
            go_wp2_with fail
            refine (in_yes ep 0 60000 _ HN.out.1 HN.out.2).mono ?_
            rintro e w' ⟨rfl, rfl⟩
            go_wp2_with fail
            refine (in_no sq 0 60000 _ HQ.out).mono ?_
            rintro e w' ⟨rfl, rfl⟩
            go_wp2_with fail
            go_ret
            exact ⟨by rw [HV.out]; rfl, HB.out⟩
        · have HN := Lib.hid (show ep < 0 ∨ 60000 < ep by omega)
          have HV := Lib.hid (lokB_false (up := up) (ep := ep) (sq := sq) (l := l) (fun hw => by have := hw.e0; have := hw.e1; have := HN.out; omega))
          clear hn
          go_wp2_with fail
          refine (in_no ep 0 60000 _ HN.out).mono ?_
          rintro e w' ⟨rfl, rfl⟩
          go_wp2_with fail
          go_ret
          exact ⟨by rw [HV.out]; rfl, HB.out⟩
      · have hkk : k = len := by omega
        clear hgo
        subst hkk
        by_cases hn : 0 ≤ ep ∧ ep ≤ 60000
        · have HN := Lib.hid hn
          clear hn
          by_cases hs : 0 ≤ sq ∧ sq ≤ 60000
          · have HQ := Lib.hid hs
            clear hs
            by_cases h60 : (k : Int) ≤ 8
            · cases up with
              | true =>
                have HV := Lib.hid (lokB_true ((lok_iff true ep sq l).2 ⟨⟨HN.out.1, HN.out.2, HQ.out.1, HQ.out.2, by have := HL.out; omega, fun _ => rfl⟩, fun j hj => HS.out j (by have := HL.out; omega)⟩))
                go_wp2_with fail
                refine (in_yes ep 0 60000 _ HN.out.1 HN.out.2).mono ?_
                rintro e w' ⟨rfl, rfl⟩
                go_wp2_with fail
                refine (in_yes sq 0 60000 _ HQ.out.1 HQ.out.2).mono ?_
                rintro e w' ⟨rfl, rfl⟩
                go_wp2_with fail
                go_ret
                exact ⟨by rw [HV.out]; rfl, HB.out⟩
              | false =>
                have HV := Lib.hid (show lokB false ep sq l = ((k : Int) == 0) by
                  by_cases hz : k = 0
                  · rw [lokB_true ((lok_iff false ep sq l).2 ⟨⟨HN.out.1, HN.out.2, HQ.out.1, HQ.out.2, by have := HL.out; omega, fun h => by have := HL.out; omega⟩, fun j hj => HS.out j (by have := HL.out; omega)⟩), hz]; rfl
                  · rw [lokB_false (fun hw => by have := hw.hup (by have := HL.out; omega); cases this)]
                    symm; simp; omega)
                go_wp2_with fail
                refine (in_yes ep 0 60000 _ HN.out.1 HN.out.2).mono ?_
                rintro e w' ⟨rfl, rfl⟩
                go_wp2_with fail
                refine (in_yes sq 0 60000 _ HQ.out.1 HQ.out.2).mono ?_
                rintro e w' ⟨rfl, rfl⟩
                go_wp2_with fail
                go_ret
                exact ⟨by rw [HV.out]; rfl, HB.out⟩
            · have HV := Lib.hid (lokB_false (up := up) (ep := ep) (sq := sq) (l := l) (fun hw => by have := hw.len; have := HL.out; omega))
              have d60 : decide ((k : Int) ≤ 8) = false := by simp; omega
              clear h60
              go_wp2_with fail
              refine (in_yes ep 0 60000 _ HN.out.1 HN.out.2).mono ?_
              rintro e w' ⟨rfl, rfl⟩
              go_wp2_with fail
              refine (in_yes sq 0 60000 _ HQ.out.1 HQ.out.2).mono ?_
              rintro e w' ⟨rfl, rfl⟩
              go_wp2_with fail
              go_ret
              exact ⟨by rw [HV.out]; rfl, HB.out⟩
          · have HQ := Lib.hid (show sq < 0 ∨ 60000 < sq by omega)
            have HV := Lib.hid (lokB_false (up := up) (ep := ep) (sq := sq) (l := l) (fun hw => by have := hw.s0; have := hw.s1; have := HQ.out; omega))
            clear hs
            go_wp2_with fail
            refine (in_yes ep 0 60000 _ HN.out.1 HN.out.2).mono ?_
            rintro e w' ⟨rfl, rfl⟩
            go_wp2_with fail
            refine (in_no sq 0 60000 _ HQ.out).mono ?_
            rintro e w' ⟨rfl, rfl⟩
            go_wp2_with fail
            go_ret
            exact ⟨by rw [HV.out]; rfl, HB.out⟩
        · have HN := Lib.hid (show ep < 0 ∨ 60000 < ep by omega)
          have HV := Lib.hid (lokB_false (up := up) (ep := ep) (sq := sq) (l := l) (fun hw => by have := hw.e0; have := hw.e1; have := HN.out; omega))
          clear hn
          go_wp2_with fail
          refine (in_no ep 0 60000 _ HN.out).mono ?_
          rintro e w' ⟨rfl, rfl⟩
          go_wp2_with fail
          go_ret
          exact ⟨by rw [HV.out]; rfl, HB.out⟩
end Go.Proofs.Ytecfomaapomncaa.Lnk
