/-
  The walk of spec's TurnWheel.
-/
import Derived.Test.YtkoliacbajpijaaDoorSptA
namespace Go.Proofs.YtkoliacbajpijaaDoor.Whl
open Go.RowKit Go.Maps
set_option linter.unusedVariables false

set_option maxRecDepth 100000 in
set_option maxHeartbeats 2000000 in
theorem specTurnWheel_any (w : World) (a : Option Addr) (len cap : Nat) (now : Int) (l : List T) (to : Int) (h : TIs w.heap.size w a len l) (hlen : len ≤ 1048576) (hcap : a = none → cap = 0) :
    Calls Tryd.prog 26 #[.agg #[.int .i64 now, .slice a len cap], .int .i64 to] w fun e w' => TurnWEnd w.heap.size w w' (trnN now l to) (trnR now l to) (trnI now l to) e := by
  have hfr := fr_two w a len cap now l h
  have HL := Lib.hid h.hlen
  clear h
  go_enter Tryd.func26, Tryd.ntmps26
  go_wp2_with fail
  have HI0 := inil ((w.alloc (.cells #[.int .i64 now, .slice a len cap] 26)).alloc (.cells #[.int .i64 0, .slice none 0 0] 26))
  have es : ((w.alloc (.cells #[.int .i64 now, .slice a len cap] 26)).alloc (.cells #[.int .i64 0, .slice none 0 0] 26)).heap.size = w.heap.size + 1 + 1 := by simp
  rw [es] at HI0
  have hfr4 := hfr.step (bOne _ (.cells #[] 3))
  obtain ⟨W, hW⟩ : ∃ W, W = ((w.alloc (.cells #[.int .i64 now, .slice a len cap] 26)).alloc (.cells #[.int .i64 0, .slice none 0 0] 26)).alloc (.cells #[] 3) := ⟨_, rfl⟩
  rw [← hW] at HI0 hfr4 ⊢
  clear hW hfr es
  refine (specWheelOk_any W a len cap now l hfr4.tis).mono ?_
  rintro e w2 ⟨rfl, hb2⟩
  have HF2 := Lib.hid (hfr4.step hb2)
  have HI2 := Lib.hid (HI0.below hb2)
  clear hb2 hfr4 HI0
  obtain ⟨c0, c1, c2, c3, f2, f3⟩ := HF2.out.cells
  by_cases hok : WOk now l
  · rw [wokB_true hok]
    have HLN := Lib.hid hok.len
    have HOK := Lib.hid hok
    clear hok
    by_cases hto : to < now
    · have HDR := Lib.hid (trnB_no2 (l := l) hto)
      go_wp2_with fail
      refine (l02Copy_any w2 a len cap now l HF2.out.tis hlen hcap).mono ?_
      rintro e w3 ⟨⟨a', cap', rfl, ho⟩, hb3⟩
      have HF3 := Lib.hid (HF2.out.step hb3)
      have HEND := Lib.hid (fun x y => And.intro (HF2.out.end_ hb3 HF2.out.b1.lt (Nat.le_refl _) ho x y) ((((HI2.out.below hb3).setLow (p := ⟨w.heap.size + 1, 0, none⟩) (by simp <;> omega) x).setLow (p := ⟨w.heap.size + 1, 1, none⟩) (by simp <;> omega) y).base (B' := w.heap.size) (by omega)))
      clear ho hb3 c0 c1 c2 c3 f2 f3
      obtain ⟨c0, c1, c2, c3, f2, f3⟩ := HF3.out.cells
      go_wp2_with fail
      exact bodyPost_ret (v := .tuple #[.agg #[.int .i64 now, .slice a' l.length cap'], .slice (some ⟨w.heap.size + 1 + 1, 0, none⟩) 0 0]) (by simp [results, Tryd.results26, go_sem, c2, c3]) rfl (trn_no HDR.out ⟨⟨a', cap', _, rfl, (HEND.out _ _).1.1, (HEND.out _ _).2⟩, (HEND.out _ _).1.2⟩)
    by_cases hto1 : 1000000000 < to
    · have HDR := Lib.hid (trnB_no3 (now := now) (l := l) hto1)
      go_wp2_with fail
      refine (l02Copy_any w2 a len cap now l HF2.out.tis hlen hcap).mono ?_
      rintro e w3 ⟨⟨a', cap', rfl, ho⟩, hb3⟩
      have HF3 := Lib.hid (HF2.out.step hb3)
      have HEND := Lib.hid (fun x y => And.intro (HF2.out.end_ hb3 HF2.out.b1.lt (Nat.le_refl _) ho x y) ((((HI2.out.below hb3).setLow (p := ⟨w.heap.size + 1, 0, none⟩) (by simp <;> omega) x).setLow (p := ⟨w.heap.size + 1, 1, none⟩) (by simp <;> omega) y).base (B' := w.heap.size) (by omega)))
      clear ho hb3 c0 c1 c2 c3 f2 f3
      obtain ⟨c0, c1, c2, c3, f2, f3⟩ := HF3.out.cells
      go_wp2_with fail
      exact bodyPost_ret (v := .tuple #[.agg #[.int .i64 now, .slice a' l.length cap'], .slice (some ⟨w.heap.size + 1 + 1, 0, none⟩) 0 0]) (by simp [results, Tryd.results26, go_sem, c2, c3]) rfl (trn_no HDR.out ⟨⟨a', cap', _, rfl, (HEND.out _ _).1.1, (HEND.out _ _).2⟩, (HEND.out _ _).1.2⟩)
    have HDR := Lib.hid (trnB_yes (to := to) HOK.out (by omega) (by omega))
    have hd1 : decide (to < now) = false := by simp; omega
    have hd2 : decide (1000000000 < to) = false := by simp; omega
    clear hto hto1
    go_wp2_with fail
    have hgr := gr_start w2 (.int .i64 to)
    have hbb := (bOne w2 (.cells #[] 28)).trans ((bOne (w2.alloc (.cells #[] 28)) (.cells #[.int .i64 to, .slice (some ⟨w2.heap.size, 0, none⟩) 0 0] 26)).mono (by simp))
    have HF3 := Lib.hid (HF2.out.step hbb)
    have hne2 : (Value.slice (some ⟨w.heap.size + 1 + 1, 0, none⟩) 0 0).ownBlock ≠ some (w2.heap.size + 1) := by
      have : w.heap.size + 1 + 1 < w2.heap.size := (World.ownsRow.lt HI2.out _ rfl).2
      simp only [Value.ownBlock, ne_eq, Option.some.injEq]
      omega
    have hgi : GrI _ (w2.heap.size + 1) w2.heap.size (w.heap.size + 1 + 1) (.int .i64 to) (.slice (some ⟨w2.heap.size, 0, none⟩) 0 0) [] (.slice (some ⟨w.heap.size + 1 + 1, 0, none⟩) 0 0) [] := ⟨hgr, HI2.out.below hbb, hne2⟩
    have HG3 := Lib.hid hgi
    have hsz2 : w.heap.size + 1 + 1 < w2.heap.size := (World.ownsRow.lt HI2.out _ rfl).2
    have HSZ2 := Lib.hid hsz2
    clear hgr hbb hne2 hgi c0 c1 c2 c3 f2 f3
    go_loopw [6, 8] (fun vi i wr => ∃ (k : Nat) (v : Value), k ≤ len ∧ i = .int .i64 k ∧ Hid (Fr w wr a len cap now l (w.heap.size + 1)) ∧ Hid (GrI wr (w2.heap.size + 1) w2.heap.size (w.heap.size + 1 + 1) (.int .i64 to) v (restL (l.take k) to) vi ((dueL (l.take k) to).map Prod.snd))) (fun _ i _ => len - (intOf i).toNat)
    case atStart => exact ⟨0, _, by omega, rfl, HF3, by simpa [restL, dueL] using HG3⟩
    case round =>
      obtain ⟨k, v, hk, rfl, HF, HG⟩ := hrel
      obtain ⟨c0, c1, c2, c3, f2, f3⟩ := HF.out.cells
      by_cases hlt : (k : Int) < (len : Int)
      · have hkl : k < l.length := by have := HL.out; omega
        obtain ⟨b', off, rfl, hbw, e0, e1⟩ := HF.out.t.cell k hkl
        have hbw2 : b' < wr.heap.size := by have := HF.out.low.size; omega
        obtain ⟨x, hx⟩ : ∃ x, x = l[k].1 := ⟨_, rfl⟩
        obtain ⟨y, hy⟩ : ∃ y, y = l[k].2 := ⟨_, rfl⟩
        have HXY := Lib.hid (show l[k] = (x, y) by rw [hx, hy])
        rw [← hx] at e0
        rw [← hy] at e1
        clear hx hy
        by_cases hle : x ≤ to
        · have hb1 : decide (x ≤ to) = true := by simp [hle]
          have HS := Lib.hid (rest_snoc_le hkl (to := to) (by rw [HXY.out]; exact hle))
          have hbd : Below wr.heap.size wr (wr.alloc (.cells #[.int .i64 y] 3)) := bOne _ _
          have HBD := Lib.hid hbd
          have HO1 := Lib.hid (HG.out.own.below hbd)
          have HBB := Lib.hid (show w.heap.size + 1 + 1 ≤ wr.heap.size by have := HG.out.gr.box.lt; omega)
          have HDL := Lib.hid (show ((dueL (l.take k) to).map Prod.snd).length + 1 ≤ 2000000 by rw [List.length_map]; have h1 : (dueL (l.take k) to).length ≤ (l.take k).length := List.length_filter_le _ _; have h2 := HLN.out; simp only [List.length_take] at h1; omega)
          clear hbd
          go_wp2_with (first | (at_builtin; refine wpList_append_run rfl _ _ _ rfl _ _ (by simp [Act.eval]) (by simp [Act.eval]) (app_int HO1.out (cell_one_new _ _ _) HDL.out (Nat.le_trans HBB.out HBD.out.size)) ?_; intro v3 w3 happ; obtain ⟨a3, n3, cap3, rfl⟩ := happ.form; have hga := HG.out.appI HBD.out happ HBB.out; have HG3 := Lib.hid hga.1; have HF3 := Lib.hid (HF.out.low' hga.2 (by omega)); clear happ hga) | fail)
          go_roundw
          case rel => exact ⟨k + 1, v, by omega, by go_num, HF3, by rw [HS.out.1, HS.out.2, List.map_append, HXY.out]; exact HG3⟩
          case measure => simp [intOf]; omega
        · have hb1 : decide (x ≤ to) = false := by simp; omega
          have HS := Lib.hid (rest_snoc_gt hkl (to := to) (by rw [HXY.out]; show to < x; omega))
          go_wp2_with fail
          obtain ⟨g0, g1, g2, g3⟩ := HG.out.gr.cells
          have hbd : Below wr.heap.size wr (wr.drew.alloc (.cells #[.int .i64 x, .int .i64 y] 28)) := (below_drew' (Below.refl _ _)).alloc (Nat.le_refl _) _
          have HBD := Lib.hid hbd
          have HT1 := Lib.hid (tis_one wr.drew x y)
          have HO1 := Lib.hid (HG.out.gr.own.below hbd)
          have HBB := Lib.hid (show w2.heap.size ≤ (wr.drew.alloc (.cells #[.int .i64 x, .int .i64 y] 28)).heap.size by have := HG.out.gr.box.lt; have := hbd.size; omega)
          have HDL := Lib.hid (show (restL (l.take k) to).length + 1 ≤ 2000000 by have h1 : (restL (l.take k) to).length ≤ (l.take k).length := List.length_filter_le _ _; have h2 := HLN.out; simp only [List.length_take] at h1; omega)
          have hlt0 : w.heap.size < wr.heap.size := HF.out.b0.lt
          have hlt3 : w2.heap.size + 1 < wr.heap.size := HG.out.gr.box.lt
          clear hbd
          go_region_law (refine step_append_run rfl _ _ _ rfl _ _ (by simp [Act.eval]) (by simp [Act.eval]) (app_tis (cap := 1) HO1.out HT1.out (fun e => by cases e) HDL.out HBB.out) ?_; intro v3 w3 happ; obtain ⟨a2, n2, cap2, rfl⟩ := happ.form; have HA := Lib.hid happ; obtain ⟨k1, k2, k3⟩ := HG.out.gr.at_ HBD.out happ; have d0 := k1.c0; have d1 := k1.c1; have d2 := k2.f0; have d3 := k2.f1; clear happ k1 k2 k3)
          all_goals
            have hga := HG.out.app HBD.out HA.out (by omega)
            have HG3 := Lib.hid hga.1
            have HF3 := Lib.hid (HF.out.low' hga.2 (by omega))
            clear hga d0 d1 d2 d3 HA
            obtain ⟨w4, hw4⟩ : ∃ w4, w4 = w3.setCell ⟨w2.heap.size + 1, 1, none⟩ (.slice a2 n2 cap2) := ⟨_, rfl⟩
            rw [← hw4] at HG3 HF3 ⊢
            clear hw4
            go_wp2_with fail
            go_roundw
            case rel => exact ⟨k + 1, _, by omega, by go_num, HF3, by rw [HS.out.1, HS.out.2, HXY.out]; exact HG3⟩
            case measure => simp [intOf]; omega
      · have hkk : k = l.length := by have := HL.out; omega
        have hg := HG.out
        rw [hkk, List.take_length] at hg
        obtain ⟨a', cap', rfl⟩ := hg.gr.own.shape
        obtain ⟨g0, g1, g2, g3⟩ := hg.gr.cells
        have HEND := Lib.hid (fun x y => And.intro (And.intro (((hg.gr.own.setLow (p := ⟨w.heap.size + 1, 0, none⟩) (by simp <;> omega) x).setLow (p := ⟨w.heap.size + 1, 1, none⟩) (by simp <;> omega) y).base (B' := w.heap.size) (by omega)) (((hg.own.setLow (p := ⟨w.heap.size + 1, 0, none⟩) (by simp <;> omega) x).setLow (p := ⟨w.heap.size + 1, 1, none⟩) (by simp <;> omega) y).base (B' := w.heap.size) (by omega))) ((HF.out.low.setCell (p := ⟨w.heap.size + 1, 0, none⟩) (by simp) x).setCell (p := ⟨w.heap.size + 1, 1, none⟩) (by simp) y))
        have hne1 : w.heap.size + 1 ≠ w2.heap.size + 1 := by omega
        clear hg
        go_wp2_with fail
        exact bodyPost_ret (v := .tuple #[.agg #[.int .i64 to, .slice a' (restL l to).length cap'], _]) (by simp [results, Tryd.results26, go_sem, c2, c3]) rfl (trn_yes HDR.out ⟨⟨a', cap', _, rfl, (HEND.out _ _).1.1, (HEND.out _ _).1.2⟩, (HEND.out _ _).2⟩)
  · have HDR := Lib.hid (trnB_no1 to hok)
    rw [wokB_false hok]
    clear hok
    go_wp2_with fail
    refine (l02Copy_any w2 a len cap now l HF2.out.tis hlen hcap).mono ?_
    rintro e w3 ⟨⟨a', cap', rfl, ho⟩, hb3⟩
    have HF3 := Lib.hid (HF2.out.step hb3)
    have HEND := Lib.hid (fun x y => And.intro (HF2.out.end_ hb3 HF2.out.b1.lt (Nat.le_refl _) ho x y) ((((HI2.out.below hb3).setLow (p := ⟨w.heap.size + 1, 0, none⟩) (by simp <;> omega) x).setLow (p := ⟨w.heap.size + 1, 1, none⟩) (by simp <;> omega) y).base (B' := w.heap.size) (by omega)))
    clear ho hb3 c0 c1 c2 c3 f2 f3
    obtain ⟨c0, c1, c2, c3, f2, f3⟩ := HF3.out.cells
    go_wp2_with fail
    exact bodyPost_ret (v := .tuple #[.agg #[.int .i64 now, .slice a' l.length cap'], .slice (some ⟨w.heap.size + 1 + 1, 0, none⟩) 0 0]) (by simp [results, Tryd.results26, go_sem, c2, c3]) rfl (trn_no HDR.out ⟨⟨a', cap', _, rfl, (HEND.out _ _).1.1, (HEND.out _ _).2⟩, (HEND.out _ _).1.2⟩)
end Go.Proofs.YtkoliacbajpijaaDoor.Whl
