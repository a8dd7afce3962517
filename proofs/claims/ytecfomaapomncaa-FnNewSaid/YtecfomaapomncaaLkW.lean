/-
  The walks of the program's flyOk and LinkOk.
-/
import Derived.Test.YtecfomaapomncaaLkM
import Derived.Test.YtecfomaapomncaaLkP
import Derived.IntWalk
namespace Go.Proofs.Ytecfomaapomncaa.Lnk
open Go.RowKit Go.Maps
set_option linter.unusedVariables false

theorem flyOk_yes (x y z : Int) (w : World) (h : fOk (x, y, z)) :
    Calls Try.prog 97 #[.agg #[.int .i64 x, .int .i64 y, .int .i64 z]] w fun e w' => e = .returned (.bool true) ∧ Below w.heap.size w w' := by
  unfold fOk at h
  obtain ⟨h1, h2, h3, h4⟩ := h
  simp only at h1 h2 h3 h4
  have h5 : decide (0 < y) = true := by simp; omega
  go_enter Try.func97, Try.ntmps97
  go_wp2
  go_ret
  exact ⟨rfl, bOne _ _⟩
theorem flyOk_no (x y z : Int) (w : World) (h : ¬ fOk (x, y, z)) :
    Calls Try.prog 97 #[.agg #[.int .i64 x, .int .i64 y, .int .i64 z]] w fun e w' => e = .returned (.bool false) ∧ Below w.heap.size w w' := by
  unfold fOk at h
  simp only at h
  by_cases h1 : 1 ≤ y
  · have k1 : decide (0 < y) = true := by simp; omega
    by_cases h2 : y ≤ 9999
    · by_cases h3 : 0 ≤ z
      · have h4 : decide (z ≤ 2000000000) = false := by simp; omega
        clear h
        go_enter Try.func97, Try.ntmps97
        go_wp2
        go_ret
        exact ⟨rfl, bOne _ _⟩
      · have h4 : decide (0 ≤ z) = false := by simp; omega
        clear h
        go_enter Try.func97, Try.ntmps97
        go_wp2
        go_ret
        exact ⟨rfl, bOne _ _⟩
    · have h4 : decide (y ≤ 9999) = false := by simp; omega
      clear h
      go_enter Try.func97, Try.ntmps97
      go_wp2
      go_ret
      exact ⟨rfl, bOne _ _⟩
  · have h4 : decide (1 ≤ y) = false := by simp; omega
    have h5 : decide (0 < y) = false := by simp; omega
    clear h
    go_enter Try.func97, Try.ntmps97
    go_wp2
    go_ret
    exact ⟨rfl, bOne _ _⟩

set_option maxRecDepth 100000 in
set_option maxHeartbeats 1000000 in
theorem linkOk_none (w : World) (a : Option Addr) (cap : Nat) (up : Bool) (ep sq : Int) (e0 : 0 ≤ ep) (e1 : ep ≤ 60000) (s0 : 0 ≤ sq) (s1 : sq ≤ 60000) :
    Calls Try.prog 73 #[.agg #[.bool up, .int .i64 ep, .int .i64 sq, .slice a 0 cap]] w fun e w' => e = .returned (.bool true) ∧ Below w.heap.size w w' := by
  have hmm := @run_makeMap Try.prog
  have hd1 : decide (ep < 0) = false := by simp; omega
  have hd2 : decide (60000 < ep) = false := by simp; omega
  have hd3 : decide (sq < 0) = false := by simp; omega
  have hd4 : decide (60000 < sq) = false := by simp; omega
  go_enter Try.func73, Try.ntmps73
  go_wp2
  refine wp_loop_rounds 1 ?_
  rw [rounds_succ]
  go_wp2
  go_ret
  exact ⟨rfl, ((Below.refl _ _).alloc (Nat.le_refl _) _).alloc (by simp) _⟩

set_option maxRecDepth 100000 in
set_option maxHeartbeats 1000000 in
theorem linkOk_loop (w : World) (a : Option Addr) (len cap : Nat) (ep sq : Int) (l : List Y) (h : YIs w.heap.size w a len l) (e0 : 0 ≤ ep) (e1 : ep ≤ 60000) (s0 : 0 ≤ sq) (s1 : sq ≤ 60000) (h8 : len ≤ 8) (hp : 0 < (len : Int)) :
    Calls Try.prog 73 #[.agg #[.bool true, .int .i64 ep, .int .i64 sq, .slice a len cap]] w fun e w' => e = .returned (.bool (lokB true ep sq l)) ∧ Below w.heap.size w w' := by
  have hmm := @run_makeMap Try.prog
  have HBX := Lib.hid (bOne w (.cells #[.bool true, .int .i64 ep, .int .i64 sq, .slice a len cap] 42))
  have HT := Lib.hid h
  have HL := Lib.hid h.hlen
  have HA := Lib.hid (B4.new w true ep sq (.slice a len cap) 42)
  have HW := Lib.hid (lok_iff true ep sq l)
  have HN := Lib.hid (And.intro e0 (And.intro e1 (And.intro s0 (And.intro s1 h8))))
  have hd0 : decide (8 < (len : Int)) = false := by simp; omega
  have hd1 : decide (ep < 0) = false := by simp; omega
  have hd2 : decide (60000 < ep) = false := by simp; omega
  have hd3 : decide (sq < 0) = false := by simp; omega
  have hd4 : decide (60000 < sq) = false := by simp; omega
  clear h e0 e1 s0 s1
  go_enter Try.func73, Try.ntmps73
  go_wp2_with fail
  clear hd0 hd1 hd2 hd3 hd4 hp
  go_loopw [4, 44] (fun pv i wr => ∃ (k : Nat) (D : DataW Unit) (p : Int), k ≤ len ∧ pv = .int .i64 p ∧ i = .int .i64 k ∧ Hid (lastS l k = p) ∧ Hid (∀ j, j < k → stepOk sq l j) ∧ Hid (wr.ownsMap Try.prog 3 (plainElem Try.prog 4) (w.heap.size + 1) k D) ∧ Hid (SeenIs D ((l.take k).map (fun t => t.2.1))) ∧ Hid (Below w.heap.size w wr) ∧ Hid (B4 wr w.heap.size true ep sq (.slice a len cap))) (fun _ i _ => len - (intOf i).toNat)
  case atStart =>
    refine ⟨0, .map [], 0, by omega, rfl, rfl, Lib.hid rfl, Lib.hid (by omega), Lib.hid ?_, Lib.hid SeenIs.start, Lib.hid (bAfter HBX.out (bOne _ _) (by simp)), Lib.hid (HA.out.below (bOne _ _))⟩
    have := World.ownsMap_made (H := Unit) (w.alloc (.cells #[.bool true, .int .i64 ep, .int .i64 sq, .slice a len cap] 42)) Try.prog 3 (plainElem Try.prog 4)
    simpa using this
  case round =>
    obtain ⟨k, D, p, hk, rfl, rfl, HP, HS, HM, HSN, HB, HBx⟩ := hrel
    by_cases hlt : (k : Int) < (len : Int)
    · have hkl : k < l.length := by have := HL.out; omega
      obtain ⟨b, off, rfl, hbw, cx, cy, cz⟩ := (HT.out.below HB.out).cell k hkl
      obtain ⟨x, hx⟩ : ∃ x, x = l[k].1 := ⟨_, rfl⟩
      obtain ⟨y, hy⟩ : ∃ y, y = l[k].2.1 := ⟨_, rfl⟩
      obtain ⟨z, hz⟩ : ∃ z, z = l[k].2.2 := ⟨_, rfl⟩
      have hxy : l.getD k (0, 0, 0) = (x, y, z) := by rw [hx, hy, hz, getD_at hkl]
      rw [← hx] at cx
      rw [← hy] at cy
      rw [← hz] at cz
      have HXY := Lib.hid hxy
      clear hx hy hz hxy
      obtain ⟨c0, c1, c2, c3, hltw⟩ := HBx.out.cells
      have HB1 := Lib.hid (bOne wr (.cells #[.int .i64 x, .int .i64 y, .int .i64 z] 96))
      have HX1 := Lib.hid (Bf.new wr x y z 96)
      have HBx1 := Lib.hid (HBx.out.below HB1.out)
      by_cases h1 : x ≤ p
      · have HNO := Lib.hid (lok_not (up := true) (ep := ep) (sq := sq) hkl (fun hs => by have := (step_at HXY.out HP.out hs).1; omega))
        go_wp2_with fail
        go_ret
        exact ⟨by rw [HNO.out]; rfl, bAfter HB.out HB1.out HB.out.size⟩
      by_cases h2 : sq < x
      · have HNO := Lib.hid (lok_not (up := true) (ep := ep) (sq := sq) hkl (fun hs => by have := (step_at HXY.out HP.out hs).2.1; omega))
        have hd1 : decide (x ≤ p) = false := by simp; omega
        go_wp2_with fail
        go_ret
        exact ⟨by rw [HNO.out]; rfl, bAfter HB.out HB1.out HB.out.size⟩
      have hd1 : decide (x ≤ p) = false := by simp; omega
      have hd2 : decide (sq < x) = false := by simp; omega
      have H12 := Lib.hid (And.intro h1 h2)
      clear h1 h2
      by_cases hok : fOk (x, y, z)
      · have HOK := Lib.hid hok
        clear hok
        go_wp2_with fail
        refine (flyOk_yes x y z _ HOK.out).mono ?_
        rintro e w2 ⟨rfl, hb2⟩
        have HB2 := Lib.hid (bAfter HB.out (bAfter HB1.out hb2 (by simp)) HB.out.size)
        have HX2 := Lib.hid (HX1.out.below hb2)
        have HBx2 := Lib.hid (HBx1.out.below hb2)
        have HM2 := Lib.hid ((HM.out.kept (grown_of_below HB1.out none) (by simp)).kept (grown_of_below hb2 none) (by simp))
        have hy1 : 1 ≤ y := HOK.out.1
        have hy2 : y ≤ 9999 := HOK.out.2.1
        have HLK := seen_look HM2.out HSN.out (y := y) hy1 hy2
        have HKEY := Lib.hid (keyOf_id hy1 hy2)
        clear hb2 cx cy cz c0 c1 c2 c3 hltw hy1 hy2
        obtain ⟨c0, c1, c2, c3, hltw⟩ := HBx2.out.cells
        obtain ⟨d0, d1, d2, hltx⟩ := HX2.out
        by_cases hmem : y ∈ (l.take k).map (fun t => t.2.1)
        · have HNO := Lib.hid (lok_not (up := true) (ep := ep) (sq := sq) hkl (fun hs => (step_at HXY.out HP.out hs).2.2.2 hmem))
          rw [decide_eq_true hmem] at HLK
          clear hmem
          go_wp2_with fail
          go_ret
          exact ⟨by rw [HNO.out]; rfl, HB2.out⟩
        · have HSTEP := Lib.hid (step_of (sq := sq) HXY.out HP.out (by have := H12.out; omega) (by have := H12.out; omega) HOK.out hmem)
          rw [decide_eq_false hmem] at HLK
          clear hmem
          go_wp2_with (first | (at_mapUpdate; refine wpList_mapUpdate_own _ rfl _ _ _ 116 rfl 3 4 keyInt Try.underlying116 _ (w.heap.size + 1) k D rfl HM2.out (by have := HN.out; unfold maxLen; omega) _ _ _ rfl rfl HKEY.out _ [] (plainElem_bool Try.underlying4 true) ?_) | fail)
          intro w4 hown4 hgrow4
          have HM4 := Lib.hid hown4
          have HG4 := Lib.hid hgrow4
          clear hown4 hgrow4 d0 d1 d2 hltx HLK
          go_wp2_with fail
          go_roundw
          case rel =>
            have hsz := HB2.out.size
            have hM1 := HM2.out.lt
            refine ⟨k + 1, _, x, by omega, rfl, by go_num, Lib.hid (last_next HXY.out), Lib.hid (fun j hj => ?_), HM4, Lib.hid (take_ids hkl HXY.out ▸ HSN.out.put y), Lib.hid (HB2.out.grown HG4.out hsz (fun j e => by cases e; omega)), Lib.hid (HBx2.out.grown HG4.out (by simp))⟩
            by_cases hjk : j = k
            · subst hjk
              exact HSTEP.out
            · exact HS.out j (by omega)
          case measure => simp [intOf]; omega
      · have HNO := Lib.hid (lok_not (up := true) (ep := ep) (sq := sq) hkl (fun hs => hok (step_at HXY.out HP.out hs).2.2.1))
        have HOK := Lib.hid hok
        clear hok
        go_wp2_with fail
        refine (flyOk_no x y z _ HOK.out).mono ?_
        rintro e w2 ⟨rfl, hb2⟩
        have HB2 := Lib.hid (bAfter HB.out (bAfter HB1.out hb2 (by simp)) HB.out.size)
        clear hb2
        go_wp2_with fail
        go_ret
        exact ⟨by rw [HNO.out]; rfl, HB2.out⟩
    · have HALL := Lib.hid (lokB_true (HW.out.2 ⟨⟨HN.out.1, HN.out.2.1, HN.out.2.2.1, HN.out.2.2.2.1, by have := HL.out; have := HN.out.2.2.2.2; omega, fun _ => by trivial⟩, fun j hj => HS.out j (by have := HL.out; omega)⟩))
      go_wp2_with fail
      go_ret
      exact ⟨by rw [HALL.out]; rfl, HB.out⟩

theorem linkOk_ep (w : World) (a : Option Addr) (len cap : Nat) (up : Bool) (ep sq : Int) (h : ep < 0 ∨ 60000 < ep) :
    Calls Try.prog 73 #[.agg #[.bool up, .int .i64 ep, .int .i64 sq, .slice a len cap]] w fun e w' => e = .returned (.bool false) ∧ Below w.heap.size w w' := by
  by_cases h0 : ep < 0
  · clear h
    go_enter Try.func73, Try.ntmps73
    go_wp2
    go_ret
    exact ⟨rfl, bOne _ _⟩
  · have h1 : 60000 < ep := by omega
    have hd : decide (ep < 0) = false := by simp; omega
    clear h h0
    go_enter Try.func73, Try.ntmps73
    go_wp2
    go_ret
    exact ⟨rfl, bOne _ _⟩
theorem linkOk_sq (w : World) (a : Option Addr) (len cap : Nat) (up : Bool) (ep sq : Int) (e0 : 0 ≤ ep) (e1 : ep ≤ 60000) (h : sq < 0 ∨ 60000 < sq) :
    Calls Try.prog 73 #[.agg #[.bool up, .int .i64 ep, .int .i64 sq, .slice a len cap]] w fun e w' => e = .returned (.bool false) ∧ Below w.heap.size w w' := by
  have hd1 : decide (ep < 0) = false := by simp; omega
  have hd2 : decide (60000 < ep) = false := by simp; omega
  by_cases h0 : sq < 0
  · clear h
    go_enter Try.func73, Try.ntmps73
    go_wp2
    go_ret
    exact ⟨rfl, bOne _ _⟩
  · have h1 : 60000 < sq := by omega
    have hd : decide (sq < 0) = false := by simp; omega
    clear h h0
    go_enter Try.func73, Try.ntmps73
    go_wp2
    go_ret
    exact ⟨rfl, bOne _ _⟩
theorem linkOk_len (w : World) (a : Option Addr) (len cap : Nat) (up : Bool) (ep sq : Int) (e0 : 0 ≤ ep) (e1 : ep ≤ 60000) (s0 : 0 ≤ sq) (s1 : sq ≤ 60000) (h : 8 < (len : Int)) :
    Calls Try.prog 73 #[.agg #[.bool up, .int .i64 ep, .int .i64 sq, .slice a len cap]] w fun e w' => e = .returned (.bool false) ∧ Below w.heap.size w w' := by
  have hd1 : decide (ep < 0) = false := by simp; omega
  have hd2 : decide (60000 < ep) = false := by simp; omega
  have hd3 : decide (sq < 0) = false := by simp; omega
  have hd4 : decide (60000 < sq) = false := by simp; omega
  go_enter Try.func73, Try.ntmps73
  go_wp2
  go_ret
  exact ⟨rfl, bOne _ _⟩
theorem linkOk_up (w : World) (a : Option Addr) (len cap : Nat) (ep sq : Int) (e0 : 0 ≤ ep) (e1 : ep ≤ 60000) (s0 : 0 ≤ sq) (s1 : sq ≤ 60000) (h : (len : Int) ≤ 8) (h1 : 0 < (len : Int)) :
    Calls Try.prog 73 #[.agg #[.bool false, .int .i64 ep, .int .i64 sq, .slice a len cap]] w fun e w' => e = .returned (.bool false) ∧ Below w.heap.size w w' := by
  have hd1 : decide (ep < 0) = false := by simp; omega
  have hd2 : decide (60000 < ep) = false := by simp; omega
  have hd3 : decide (sq < 0) = false := by simp; omega
  have hd4 : decide (60000 < sq) = false := by simp; omega
  have hd5 : decide (8 < (len : Int)) = false := by simp; omega
  go_enter Try.func73, Try.ntmps73
  go_wp2
  go_ret
  exact ⟨rfl, bOne _ _⟩

theorem linkOk_any (w : World) (a : Option Addr) (len cap : Nat) (up : Bool) (ep sq : Int) (l : List Y) (h : YIs w.heap.size w a len l) :
    Calls Try.prog 73 #[.agg #[.bool up, .int .i64 ep, .int .i64 sq, .slice a len cap]] w fun e w' => e = .returned (.bool (lokB up ep sq l)) ∧ Below w.heap.size w w' := by
  have hl := h.hlen
  by_cases h0 : ep < 0 ∨ 60000 < ep
  · rw [lokB_false (fun hw => by have := hw.e0; have := hw.e1; omega)]
    exact linkOk_ep w a len cap up ep sq h0
  by_cases h1 : sq < 0 ∨ 60000 < sq
  · rw [lokB_false (fun hw => by have := hw.s0; have := hw.s1; omega)]
    exact linkOk_sq w a len cap up ep sq (by omega) (by omega) h1
  by_cases h2 : 8 < len
  · rw [lokB_false (fun hw => by have := hw.len; omega)]
    exact linkOk_len w a len cap up ep sq (by omega) (by omega) (by omega) (by omega) (by omega)
  · by_cases h3 : 0 < len
    · cases up with
      | true => exact linkOk_loop w a len cap ep sq l h (by omega) (by omega) (by omega) (by omega) (by omega) (by omega)
      | false =>
        rw [lokB_false (fun hw => by have := hw.hup (by omega); cases this)]
        exact linkOk_up w a len cap ep sq (by omega) (by omega) (by omega) (by omega) (by omega) (by omega)
    · have h4 : len = 0 := by omega
      subst h4
      have h5 : l = [] := List.eq_nil_of_length_eq_zero hl
      subst h5
      rw [lokB_true ⟨by omega, by omega, by omega, by omega, by simp, fun h => by simp at h, List.Pairwise.nil, fun t ht => by cases ht⟩]
      exact linkOk_none w a cap up ep sq (by omega) (by omega) (by omega) (by omega)
end Go.Proofs.Ytecfomaapomncaa.Lnk
