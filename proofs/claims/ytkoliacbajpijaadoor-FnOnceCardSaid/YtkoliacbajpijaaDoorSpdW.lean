/-
  The walk of spec's DropTimer.
-/
import Derived.Test.YtkoliacbajpijaaDoorSpdA
namespace Go.Proofs.YtkoliacbajpijaaDoor.Whl
open Go.RowKit Go.Maps
set_option linter.unusedVariables false

set_option maxRecDepth 100000 in
set_option maxHeartbeats 2000000 in
theorem specDropTimer_any' (w : World) (a : Option Addr) (len cap : Nat) (now : Int) (l : List T) (id : Int) (h : TIs w.heap.size w a len l) (hlen : len ≤ 1048576) (hcap : a = none → cap = 0) :
    Calls Tryd.prog 22 #[.agg #[.int .i64 now, .slice a len cap], .int .i64 id] w fun e w' => WheelEnd w.heap.size w w' now (drpR now l id) e ∧ (WOk now l → ∃ g c, e = .returned (.agg #[.int .i64 now, .slice (some ⟨g, 0, none⟩) (dropL l id).length c])) := by
  have hfr := fr_two w a len cap now l h
  have HL := Lib.hid h.hlen
  clear h
  go_enter Tryd.func22, Tryd.ntmps22
  go_wp2_with fail
  have HG0 := gr_start ((w.alloc (.cells #[.int .i64 now, .slice a len cap] 26)).alloc (.cells #[.int .i64 0, .slice none 0 0] 26)) (.int .i64 now)
  have es : ((w.alloc (.cells #[.int .i64 now, .slice a len cap] 26)).alloc (.cells #[.int .i64 0, .slice none 0 0] 26)).heap.size = w.heap.size + 1 + 1 := by simp
  rw [es] at HG0
  have hfr4 := (hfr.step (bOne _ (.cells #[] 28))).step (bOne _ (.cells #[.int .i64 now, .slice (some ⟨w.heap.size + 1 + 1, 0, none⟩) 0 0] 26))
  obtain ⟨W, hW⟩ : ∃ W, W = (((w.alloc (.cells #[.int .i64 now, .slice a len cap] 26)).alloc (.cells #[.int .i64 0, .slice none 0 0] 26)).alloc (.cells #[] 28)).alloc (.cells #[.int .i64 now, .slice (some ⟨w.heap.size + 1 + 1, 0, none⟩) 0 0] 26) := ⟨_, rfl⟩
  rw [← hW] at HG0 hfr4 ⊢
  clear hW hfr es
  refine (specWheelOk_any W a len cap now l hfr4.tis).mono ?_
  rintro e w2 ⟨rfl, hb2⟩
  have HF2 := Lib.hid (hfr4.step hb2)
  have HG2 := Lib.hid (HG0.below hb2)
  clear hb2 hfr4 HG0
  obtain ⟨c0, c1, c2, c3, f2, f3⟩ := HF2.out.cells
  by_cases hok : WOk now l
  · rw [wokB_true hok]
    have HDR := Lib.hid (drpR_ok hok id)
    have HLN := Lib.hid hok.len
    clear hok
    go_wp2_with fail
    go_loopw [6] (fun i wr => ∃ (k : Nat) (v : Value), k ≤ len ∧ i = .int .i64 k ∧ Hid (Fr w wr a len cap now l (w.heap.size + 1)) ∧ Hid (Gr wr (w.heap.size + 1 + 1 + 1) (w.heap.size + 1 + 1) (.int .i64 now) v (dropL (l.take k) id)) ∧ v.ownBlock ≠ none) (fun i _ => len - (intOf i).toNat)
    case atStart => exact ⟨0, _, by omega, rfl, HF2, by simpa [dropL] using HG2, by simp [Value.ownBlock]⟩
    case round =>
      obtain ⟨k, v, hk, rfl, HF, HG, hvn⟩ := hrel
      have HVN := Lib.hid hvn
      clear hvn
      clear c0 c1 c2 c3 f2 f3
      obtain ⟨c0, c1, c2, c3, f2, f3⟩ := HF.out.cells
      by_cases hlt : (k : Int) < (len : Int)
      · have hkl : k < l.length := by have := HL.out; omega
        obtain ⟨b', off, rfl, hbw, e0, e1⟩ := HF.out.t.cell k hkl
        have hbw2 : b' < wr.heap.size := by have := HF.out.low.size; omega
        obtain ⟨x, hx⟩ : ∃ x, x = l[k].1 := ⟨_, rfl⟩
        obtain ⟨y, hy⟩ : ∃ y, y = l[k].2 := ⟨_, rfl⟩
        have HXY := Lib.hid (show l[k] = (x, y) by rw [hx, hy])
        rw [← hx] at e0
        rw [← hy] at e1
        clear hx hy
        by_cases hyid : y = id
        · have hb1 : (y != id) = false := by simp [hyid]
          have HS := Lib.hid (dropL_snoc_eq hkl (id := id) (by rw [HXY.out]; exact hyid))
          have HY := Lib.hid hyid
          clear hyid
          go_wp2_with fail
          go_roundw
          case rel => exact ⟨k + 1, v, by omega, by go_num, HF, by rw [HS.out]; exact HG, HVN.out⟩
          case measure => simp [intOf]; omega
        · have hb1 : (y != id) = true := by simp [hyid]
          have HS := Lib.hid (dropL_snoc_ne hkl (id := id) (by rw [HXY.out]; exact hyid))
          have HY := Lib.hid hyid
          clear hyid
          go_wp2_with fail
          obtain ⟨g0, g1, g2, g3⟩ := HG.out.cells
          have hbd : Below wr.heap.size wr (wr.drew.alloc (.cells #[.int .i64 x, .int .i64 y] 28)) := (below_drew' (Below.refl _ _)).alloc (Nat.le_refl _) _
          have HBD := Lib.hid hbd
          have HT1 := Lib.hid (tis_one wr.drew x y)
          have HO1 := Lib.hid (HG.out.own.below hbd)
          have HBB := Lib.hid (show w.heap.size + 1 + 1 ≤ (wr.drew.alloc (.cells #[.int .i64 x, .int .i64 y] 28)).heap.size by have := HG.out.box.lt; have := hbd.size; omega)
          have HDL := Lib.hid (show (dropL (l.take k) id).length + 1 ≤ 2000000 by have h1 : (dropL (l.take k) id).length ≤ (l.take k).length := List.length_filter_le _ _; have h2 := HLN.out; simp only [List.length_take] at h1; omega)
          have hlt0 : w.heap.size < wr.heap.size := HF.out.b0.lt
          have hlt3 : w.heap.size + 1 + 1 + 1 < wr.heap.size := HG.out.box.lt
          clear hbd
          go_region_law (refine step_append_run rfl _ _ _ rfl _ _ (by simp [Act.eval]) (by simp [Act.eval]) (app_tis (cap := 1) HO1.out HT1.out (fun e => by cases e) HDL.out HBB.out) ?_; intro v2 w2 happ; obtain ⟨a2, n2, cap2, rfl⟩ := happ.form; have HA := Lib.hid happ; obtain ⟨k1, k2, k3⟩ := HG.out.at_ HBD.out happ; have d0 := k1.c0; have d1 := k1.c1; have d2 := k2.f0; have d3 := k2.f1; clear happ k1 k2 k3)
          all_goals
            have hga := HG.out.app HBD.out HA.out (by omega)
            have HVN2 := Lib.hid (show (Value.slice a2 n2 cap2).ownBlock ≠ none by rcases HA.out.2.2 with e | e <;> rw [e]; exact HVN.out; simp)
            have HG3 := Lib.hid hga.1
            have HF3 := Lib.hid (HF.out.low' hga.2 (by omega))
            clear hga d0 d1 d2 d3
            clear HA
            obtain ⟨w3, hw3⟩ : ∃ w3, w3 = w2.setCell ⟨w.heap.size + 1 + 1 + 1, 1, none⟩ (.slice a2 n2 cap2) := ⟨_, rfl⟩
            rw [← hw3] at HG3 HF3 ⊢
            clear hw3
            go_wp2_with fail
            go_roundw
            case rel => exact ⟨k + 1, _, by omega, by go_num, HF3, by rw [HS.out, HXY.out]; exact HG3, HVN2.out⟩
            case measure => simp [intOf]; omega
      · have hkk : k = l.length := by have := HL.out; omega
        have hg := HG.out
        rw [hkk, List.take_length] at hg
        obtain ⟨g, cap', rfl⟩ := own_some hg.own HVN.out
        obtain ⟨g0, g1, g2, g3⟩ := hg.cells
        have HEND := Lib.hid (fun x y => And.intro (((hg.own.setLow (p := ⟨w.heap.size + 1, 0, none⟩) (by simp <;> omega) x).setLow (p := ⟨w.heap.size + 1, 1, none⟩) (by simp <;> omega) y).base (B' := w.heap.size) (by omega)) ((HF.out.low.setCell (p := ⟨w.heap.size + 1, 0, none⟩) (by simp) x).setCell (p := ⟨w.heap.size + 1, 1, none⟩) (by simp) y))
        clear hg
        go_wp2_with fail
        exact bodyPost_ret (v := .agg #[.int .i64 now, .slice (some ⟨g, 0, none⟩) (dropL l id).length cap']) (by simp [results, Tryd.results22, go_sem, c2, c3]) rfl (by rw [HDR.out]; exact ⟨⟨⟨_, cap', rfl, (HEND.out _ _).1⟩, (HEND.out _ _).2⟩, fun _ => ⟨g, cap', rfl⟩⟩)
  · rw [wokB_false hok]
    have HDR := Lib.hid (drpR_not hok id)
    have HNO := Lib.hid hok
    clear hok
    go_wp2_with fail
    refine (l02Copy_any w2 a len cap now l HF2.out.tis hlen hcap).mono ?_
    rintro e w3 ⟨⟨a', cap', rfl, ho⟩, hb3⟩
    have HF3 := Lib.hid (HF2.out.step hb3)
    have HEND := Lib.hid (fun x y => HF2.out.end_ hb3 HF2.out.b1.lt (Nat.le_refl _) ho x y)
    clear ho hb3 c0 c1 c2 c3 f2 f3
    obtain ⟨c0, c1, c2, c3, f2, f3⟩ := HF3.out.cells
    go_wp2_with fail
    exact bodyPost_ret (v := .agg #[.int .i64 now, .slice a' l.length cap']) (by simp [results, Tryd.results22, go_sem, c2, c3]) rfl (by rw [HDR.out]; exact ⟨⟨⟨a', cap', rfl, (HEND.out _ _).1⟩, (HEND.out _ _).2⟩, fun h => absurd h HNO.out⟩)
theorem specDropTimer_any (w : World) (a : Option Addr) (len cap : Nat) (now : Int) (l : List T) (id : Int) (h : TIs w.heap.size w a len l) (hlen : len ≤ 1048576) (hcap : a = none → cap = 0) :
    Calls Tryd.prog 22 #[.agg #[.int .i64 now, .slice a len cap], .int .i64 id] w fun e w' => WheelEnd w.heap.size w w' now (drpR now l id) e :=
  (specDropTimer_any' w a len cap now l id h hlen hcap).mono fun e w' h => h.1
end Go.Proofs.YtkoliacbajpijaaDoor.Whl
