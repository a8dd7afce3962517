/-
  The walk of SetTimer.
-/
import Derived.Test.YtkoliacbajpijaaDoorIopW
namespace Go.Proofs.YtkoliacbajpijaaDoor.Whl
open Go.RowKit Go.Maps
set_option linter.unusedVariables false

theorem fr_three (w : World) (a : Option Addr) (len cap : Nat) (now x y : Int) (l : List T) (h : TIs w.heap.size w a len l) :
    Fr w (((w.alloc (.cells #[.int .i64 now, .slice a len cap] 26)).alloc (.cells #[.int .i64 x, .int .i64 y] 28)).alloc (.cells #[.int .i64 0, .slice none 0 0] 26)) a len cap now l (w.heap.size + 1 + 1) ∧
    Bx (((w.alloc (.cells #[.int .i64 now, .slice a len cap] 26)).alloc (.cells #[.int .i64 x, .int .i64 y] 28)).alloc (.cells #[.int .i64 0, .slice none 0 0] 26)) (w.heap.size + 1) (.int .i64 x) (.int .i64 y) := by
  have hb1 := bOne w (.cells #[.int .i64 now, .slice a len cap] 26)
  have hx0 := Bx.new w (.int .i64 now) (.slice a len cap) 26
  obtain ⟨w1, hw1⟩ : ∃ w1, w1 = w.alloc (.cells #[.int .i64 now, .slice a len cap] 26) := ⟨_, rfl⟩
  have hs1 : w1.heap.size = w.heap.size + 1 := by rw [hw1]; simp
  rw [← hw1] at hb1 hx0 ⊢
  have hb2 := bOne w1 (.cells #[.int .i64 x, .int .i64 y] 28)
  have hx1 := Bx.new w1 (.int .i64 x) (.int .i64 y) 28
  obtain ⟨w2, hw2⟩ : ∃ w2, w2 = w1.alloc (.cells #[.int .i64 x, .int .i64 y] 28) := ⟨_, rfl⟩
  have hs2 : w2.heap.size = w.heap.size + 1 + 1 := by rw [hw2]; simp [hs1]
  rw [← hw2] at hb2 hx1 ⊢
  have hb3 := bOne w2 (.cells #[.int .i64 0, .slice none 0 0] 26)
  have hx2 := Bx.new w2 (.int .i64 0) (.slice none 0 0) 26
  have hf2 := Bf.new w2 #[.int .i64 0, .slice none 0 0] 26
  rw [hs1] at hx1
  rw [hs2] at hx2 hf2
  have hlow := (hb1.trans (hb2.mono hb1.size)).trans (hb3.mono (Nat.le_trans hb1.size hb2.size))
  exact ⟨⟨(hx0.below hb2).below hb3, hx2, hf2, h.below hlow, hlow, by omega⟩, hx1.below hb3⟩

theorem setL_perm (l : List T) (t : T) : (dropL l t.2 ++ [t]).Perm (setL l t) := by
  unfold setL
  refine List.Perm.trans ?_ List.perm_middle.symm
  rw [List.take_append_drop]
  exact List.perm_append_comm
/-- whether SetTimer takes it, and the list that it leaves -/
noncomputable def setB (now : Int) (l : List T) (t : T) : Bool := wokB now l && wokB now (setL l t)
noncomputable def setR (now : Int) (l : List T) (t : T) : List T := if setB now l t then setL l t else l
theorem setB_no1 {now : Int} {l : List T} (t : T) (h : ¬ WOk now l) : setB now l t = false := by unfold setB; rw [wokB_false h]; rfl
theorem setB_no2 {now : Int} {l : List T} {t : T} (h : ¬ WOk now (setL l t)) : setB now l t = false := by unfold setB; rw [wokB_false h]; simp
theorem setB_yes {now : Int} {l : List T} {t : T} (h : WOk now l) (h2 : WOk now (setL l t)) : setB now l t = true := by unfold setB; rw [wokB_true h, wokB_true h2]; rfl
theorem setR_no {now : Int} {l : List T} {t : T} (h : setB now l t = false) : setR now l t = l := by unfold setR; rw [h]; rfl
theorem setR_yes {now : Int} {l : List T} {t : T} (h : setB now l t = true) : setR now l t = setL l t := by unfold setR; rw [h]; rfl
/-- what SetTimer hands back -/
def SetEnd (B : Nat) (w w' : World) (now : Int) (ok : Bool) (S : List T) (e : Ending) : Prop :=
  (∃ a cap, e = .returned (.tuple #[.agg #[.int .i64 now, .slice a S.length cap], .bool ok]) ∧ TOwn w.heap.size w' 28 (.slice a S.length cap) S) ∧ Below B w w'

set_option maxRecDepth 100000 in
set_option maxHeartbeats 2000000 in
theorem setTimer_any (w : World) (a : Option Addr) (len cap : Nat) (now : Int) (l : List T) (x y : Int) (h : TIs w.heap.size w a len l) (hlen : len ≤ 1048576) (hT : TabD w) :
    Calls Tryd.prog 13 #[.agg #[.int .i64 now, .slice a len cap], .agg #[.int .i64 x, .int .i64 y]] w fun e w' => SetEnd w.heap.size w w' now (setB now l (x, y)) (setR now l (x, y)) e := by
  obtain ⟨hfr, hbx⟩ := fr_three w a len cap now x y l h
  have HF := Lib.hid hfr
  have HX := Lib.hid hbx
  have HT := Lib.hid hT
  have hT0 := hT.lt
  clear h hT hfr hbx
  go_enter Tryd.func13, Tryd.ntmps13
  go_wp2_with fail
  refine (wheelOk_any _ a len cap now l HF.out.tis).mono ?_
  rintro e w2 ⟨rfl, hb2⟩
  have HF2 := Lib.hid (HF.out.step hb2)
  have HX2 := Lib.hid (HX.out.below hb2)
  clear hb2 HF HX
  obtain ⟨c0, c1, c2, c3, f2, f3⟩ := HF2.out.cells
  have d0 := HX2.out.c0
  have d1 := HX2.out.c1
  by_cases hok : WOk now l
  · rw [wokB_true hok]
    have HOK := Lib.hid hok
    clear hok
    by_cases htk : tOk now (x, y)
    · have HTK := Lib.hid htk
      clear htk
      go_wp2_with fail
      refine (timerOk_yes x y now _ HTK.out).mono ?_
      rintro e w3 ⟨rfl, hb3⟩
      have HF3 := Lib.hid (HF2.out.step hb3)
      have HX3 := Lib.hid (HX2.out.below hb3)
      clear hb3 HF2 HX2 c0 c1 c2 c3 f2 f3 d0 d1
      obtain ⟨c0, c1, c2, c3, f2, f3⟩ := HF3.out.cells
      have d0 := HX3.out.c0
      have d1 := HX3.out.c1
      go_wp2_with fail
      refine (fill_walk w3 a len cap now l HF3.out.tis HOK.out).mono ?_
      rintro e w4 ⟨b, bm, f, v, rfl, hfi⟩
      have HFI := Lib.hid hfi
      have HF4 := Lib.hid (HF3.out.step hfi.below)
      have HX4 := Lib.hid (HX3.out.below hfi.below)
      clear hfi c0 c1 c2 c3 f2 f3 d0 d1
      obtain ⟨c0, c1, c2, c3, f2, f3⟩ := HF4.out.cells
      have d0 := HX4.out.c0
      have d1 := HX4.out.c1
      go_wp2_with fail
      have hl60 := HOK.out.len
      have hats : AtsIs (putAll (.map []) l) l := by have := AtsIs.fill (L := l) [] _ AtsIs.start (by simpa using HOK.out.ids); simpa using this
      have htk := HTK.out
      unfold tOk at htk
      simp only at htk
      refine (drop_walk w4 w3.heap.size b bm now y f v l.length _ l HFI.out.st HFI.out.fit HOK.out.liv hats (i64_small (by omega) (by omega)) (by omega) (by omega) HFI.out.hb HFI.out.hm).mono ?_
      rintro e w5 ⟨rfl, f5, v5, n5, D5, hst5, hfit5, hats5, hn5, hb5⟩
      have HF5 := Lib.hid (HF4.out.low' hb5 HF3.out.b1.lt)
      have HX5 := Lib.hid (HX4.out.low hb5 HX3.out.lt)
      have HST5 := Lib.hid hst5
      have HFIT5 := Lib.hid hfit5
      have HATS5 := Lib.hid hats5
      have hdl : (dropL l y).length ≤ l.length := List.length_filter_le _ _
      have HDL := Lib.hid hdl
      have HN5 := Lib.hid hn5
      have HTR := Lib.hid htk
      clear hb5 hst5 hfit5 hats5 hn5 hats htk c0 c1 c2 c3 f2 f3 d0 d1 hdl
      obtain ⟨c0, c1, c2, c3, f2, f3⟩ := HF5.out.cells
      have d0 := HX5.out.c0
      have d1 := HX5.out.c1
      go_wp2_with fail
      have hn0 := HOK.out.n0
      have hn1 := HOK.out.n1
      have hlv4 : lev now x ≤ 4 := by
        have h1 : Liv now [(x, y)] := ⟨hn0, hn1, by simp only [List.mem_singleton]; rintro t rfl; have := HTR.out; simp only; omega, by simp⟩
        exact h1.lev4 (t := (x, y)) (by simp)
      have hdb := dig_bd x (lev now x)
      have HSI := Lib.hid (show dig x (lev now x) = ((dig x (lev now x)).toNat : Int) by omega)
      have HSB := Lib.hid (show (dig x (lev now x)).toNat < 64 by omega)
      refine (place_st HST5.out x y (lev now x) (dig x (lev now x)).toNat rfl HSI.out (by omega) HSB.out hn0 hn1 (by have := HTR.out; omega) HTR.out.2.1 HTR.out.2.2.1 HTR.out.2.2.2 (by have h1 := fit_len HFIT5.out (l := lev now x) (s := (dig x (lev now x)).toNat) (by omega) HSB.out; have := HDL.out; omega) (by have := HN5.out; omega)).mono ?_
      rintro e w6 ⟨rfl, v6, hst6, hk6⟩
      have hb6 : Below w3.heap.size w5 w6 := hk6.low HFI.out.hb HFI.out.hm (fun i j hi hj g hg => (HST5.out.vlt hi hj hg).1) HST5.out.hB
      have HF6 := Lib.hid (HF5.out.low' hb6 HF3.out.b1.lt)
      have HFIT6 := Lib.hid (fit_place HFIT5.out (x, y) (lev now x) (dig x (lev now x)).toNat rfl HSI.out)
      have HATS6 := Lib.hid (HATS5.out.put_new (x, y) (fun u hu => (dropL_mem.1 hu).2))
      have HST6 := Lib.hid hst6
      have km := hst6.atsCell
      clear hb6 hst6 hk6 c0 c1 c2 c3 f2 f3 d0 d1 hdb
      obtain ⟨c0, c1, c2, c3, f2, f3⟩ := HF6.out.cells
      have HSZ := Lib.hid HATS6.out.size
      by_cases h60 : (dropL l y).length + 1 ≤ 60
      · have hw2 : WOk now (setL l (x, y)) := (HOK.out.set_iff (x, y)).2 ⟨HTK.out, h60⟩
        have HDR := Lib.hid (setB_yes HOK.out hw2)
        have hlen2 : (dropL l y ++ [(x, y)]).length ≤ 100 := by simp; omega
        have hliv2 : Liv now (dropL l y ++ [(x, y)]) := hw2.liv.perm (setL_perm l (x, y)).symm
        have HE := Lib.hid (empty_walk w6 w3.heap.size b bm now _ v6 _ _ _ (setL l (x, y)) HST6.out HFIT6.out hliv2 (by have := meas_bd hliv2 hlen2; have := HN5.out; omega) hlen2 hw2.srt (fun t => ((setL_perm l (x, y)).mem_iff).symm)
          (HT.out.below HF6.out.low hT0) (by have := HF3.out.low.size; omega) HFI.out.hb HFI.out.hm)
        have hgt : decide ((60 : Int) < ((Maps.size (D5.put (.int .i64 y) (.lit (.int .i64 x))) : Nat) : Int)) = false := by rw [HSZ.out]; simp; omega
        clear hw2 hliv2
        go_wp2_with (first | (at_len; refine wpList_len_own _ rfl _ 70 rfl 3 3 Tryd.underlying70 _ bm _ _ rfl HST6.out.ownMap ?_) | fail)
        refine HE.out.mono ?_
        rintro e w7 ⟨⟨a', cap', rfl, ho⟩, hb7⟩
        have HF7 := Lib.hid (HF6.out.low' hb7 HF3.out.b1.lt)
        have HEND := Lib.hid (fun x y => HF6.out.end_ hb7 HF3.out.b1.lt HST6.out.hB ho x y)
        clear ho hb7 c0 c1 c2 c3 f2 f3 km
        obtain ⟨c0, c1, c2, c3, f2, f3⟩ := HF7.out.cells
        go_wp2_with fail
        exact bodyPost_ret (v := .tuple #[.agg #[.int .i64 now, .slice a' (setL l (x, y)).length cap'], .bool true]) (by simp [results, Tryd.results13, go_sem, c2, c3]) rfl (by rw [setR_yes HDR.out, HDR.out]; exact ⟨⟨a', cap', rfl, (HEND.out _ _).1⟩, (HEND.out _ _).2⟩)
      · have HDR := Lib.hid (setB_no2 (fun hc => h60 ((HOK.out.set_iff (x, y)).1 hc).2))
        have hgt : decide ((60 : Int) < ((Maps.size (D5.put (.int .i64 y) (.lit (.int .i64 x))) : Nat) : Int)) = true := by rw [HSZ.out]; simp; omega
        go_wp2_with (first | (at_len; refine wpList_len_own _ rfl _ 70 rfl 3 3 Tryd.underlying70 _ bm _ _ rfl HST6.out.ownMap ?_) | fail)
        refine (copyWheel_walk w6 a len cap now l HF6.out.tis hlen).mono ?_
        rintro e w7 ⟨⟨a', cap', rfl, ho⟩, hb7⟩
        have HF7 := Lib.hid (HF6.out.step hb7)
        have HEND := Lib.hid (fun x y => HF6.out.end_ hb7 HF6.out.b1.lt (Nat.le_refl _) ho x y)
        clear ho hb7 c0 c1 c2 c3 f2 f3 km
        obtain ⟨c0, c1, c2, c3, f2, f3⟩ := HF7.out.cells
        go_wp2_with fail
        exact bodyPost_ret (v := .tuple #[.agg #[.int .i64 now, .slice a' l.length cap'], .bool false]) (by simp [results, Tryd.results13, go_sem, c2, c3]) rfl (by rw [setR_no HDR.out, HDR.out]; exact ⟨⟨a', cap', rfl, (HEND.out _ _).1⟩, (HEND.out _ _).2⟩)
    · have HDR := Lib.hid (setB_no2 (fun hc => htk ((HOK.out.set_iff (x, y)).1 hc).1))
      have HTK := Lib.hid htk
      clear htk
      go_wp2_with fail
      refine (timerOk_no x y now _ HTK.out).mono ?_
      rintro e w3 ⟨rfl, hb3⟩
      have HF3 := Lib.hid (HF2.out.step hb3)
      clear hb3 HF2 HX2 c0 c1 c2 c3 f2 f3 d0 d1
      obtain ⟨c0, c1, c2, c3, f2, f3⟩ := HF3.out.cells
      go_wp2_with fail
      refine (copyWheel_walk w3 a len cap now l HF3.out.tis hlen).mono ?_
      rintro e w4 ⟨⟨a', cap', rfl, ho⟩, hb4⟩
      have HF4 := Lib.hid (HF3.out.step hb4)
      have HEND := Lib.hid (fun x y => HF3.out.end_ hb4 HF3.out.b1.lt (Nat.le_refl _) ho x y)
      clear ho hb4 c0 c1 c2 c3 f2 f3
      obtain ⟨c0, c1, c2, c3, f2, f3⟩ := HF4.out.cells
      go_wp2_with fail
      exact bodyPost_ret (v := .tuple #[.agg #[.int .i64 now, .slice a' l.length cap'], .bool false]) (by simp [results, Tryd.results13, go_sem, c2, c3]) rfl (by rw [setR_no HDR.out, HDR.out]; exact ⟨⟨a', cap', rfl, (HEND.out _ _).1⟩, (HEND.out _ _).2⟩)
  · have HDR := Lib.hid (setB_no1 (x, y) hok)
    rw [wokB_false hok]
    clear hok
    go_wp2_with fail
    refine (copyWheel_walk w2 a len cap now l HF2.out.tis hlen).mono ?_
    rintro e w3 ⟨⟨a', cap', rfl, ho⟩, hb3⟩
    have HF3 := Lib.hid (HF2.out.step hb3)
    have HEND := Lib.hid (fun x y => HF2.out.end_ hb3 HF2.out.b1.lt (Nat.le_refl _) ho x y)
    clear ho hb3 c0 c1 c2 c3 f2 f3 d0 d1
    obtain ⟨c0, c1, c2, c3, f2, f3⟩ := HF3.out.cells
    go_wp2_with fail
    exact bodyPost_ret (v := .tuple #[.agg #[.int .i64 now, .slice a' l.length cap'], .bool false]) (by simp [results, Tryd.results13, go_sem, c2, c3]) rfl (by rw [setR_no HDR.out, HDR.out]; exact ⟨⟨a', cap', rfl, (HEND.out _ _).1⟩, (HEND.out _ _).2⟩)
end Go.Proofs.YtkoliacbajpijaaDoor.Whl
