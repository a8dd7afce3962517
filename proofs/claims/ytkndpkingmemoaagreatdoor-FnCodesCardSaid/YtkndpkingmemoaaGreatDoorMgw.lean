/-
  keeper.receive.
  The program's Receive.
-/
import Derived.Test.YtkndpkingmemoaaGreatDoorMgv
namespace Go.Proofs.YtkndpkingmemoaaGreatDoor.Gat
open Go.RowKit
open Lnk (bOne bAfter IOwn IIs YOwn YIs below_keep below_drew' bcell low_after low_alloc grown_of_below)
open Frm (GotE gcode gK gD gE gS gI gB told_len FOk)
set_option linter.unusedVariables false
set_option linter.unusedSimpArgs false

theorem gok_ac {de qu wi ti qa bu le pb pc pj pt nw la : Int} {en kn : Nat} {tu : Int} {fn rn : Nat} {tk ac dr : Int} {E : List Ev} {K : List Lk} {F R : List Int} (h : gokB de qu wi ti qa bu le pb pc pj pt nw la en kn tu fn rn tk ac dr E K F R = true) : 0 ≤ ac ∧ ac ≤ 9999 := by
  have h1 := (gokB_true h).2.2.2.2.2.2.2
  unfold toP at h1
  omega
section
variable {s : ByteArray} {de ac : Int} {K : List Lk} {E : List Ev}
theorem rcvS_go {k : Int} (hc : gcode s = 0) (hd : decide (de < gD s) = false) (hk : gK s = k) (h1 : k ≠ 1) : rcvS true s de = false := by
  unfold rcvS
  rw [hc, hd, hk]
  simp [h1]
theorem rcv_same {ok : Bool} (hs : rcvS ok s de = true) : rcvE ok s de K E = E ∧ rcvK ok s de K = K ∧ rcvN ok s de K ac = ac ∧ rcvI ok s de K = 0 := by
  unfold rcvE rcvK rcvN rcvI
  rw [hs]
  exact ⟨rfl, rfl, rfl, rfl⟩
theorem rcv_bad : rcvE false s de K E = E ∧ rcvK false s de K = K ∧ rcvN false s de K ac = ac ∧ rcvI false s de K = 0 ∧ rcvC false s de K = 6 := by
  have h := rcv_same (s := s) (de := de) (K := K) (E := E) (ac := ac) (ok := false) rfl
  exact ⟨h.1, h.2.1, h.2.2.1, h.2.2.2, rfl⟩
theorem rcv_read (hc : (gcode s != 0) = true) : rcvE true s de K E = E ∧ rcvK true s de K = K ∧ rcvN true s de K ac = ac ∧ rcvI true s de K = 0 ∧ rcvC true s de K = 2 + gcode s := by
  have h := rcv_same (s := s) (de := de) (K := K) (E := E) (ac := ac) (ok := true) (by unfold rcvS; rw [hc]; rfl)
  exact ⟨h.1, h.2.1, h.2.2.1, h.2.2.2, by unfold rcvC; rw [hc]; rfl⟩
theorem rcv_dev (hc : gcode s = 0) (hd : decide (de < gD s) = true) : rcvE true s de K E = E ∧ rcvK true s de K = K ∧ rcvN true s de K ac = ac ∧ rcvI true s de K = 0 ∧ rcvC true s de K = 7 := by
  have h := rcv_same (s := s) (de := de) (K := K) (E := E) (ac := ac) (ok := true) (by unfold rcvS; rw [hc, hd]; rfl)
  exact ⟨h.1, h.2.1, h.2.2.1, h.2.2.2, by unfold rcvC; rw [hc, hd]; rfl⟩
theorem rcv_odd (hc : gcode s = 0) (hd : decide (de < gD s) = false) (hk : gK s = 1) : rcvE true s de K E = E ∧ rcvK true s de K = K ∧ rcvN true s de K ac = ac ∧ rcvI true s de K = 0 ∧ rcvC true s de K = 8 := by
  have h := rcv_same (s := s) (de := de) (K := K) (E := E) (ac := ac) (ok := true) (by unfold rcvS; rw [hc, hd, hk]; rfl)
  exact ⟨h.1, h.2.1, h.2.2.1, h.2.2.2, by unfold rcvC; rw [hc, hd, hk]; rfl⟩
theorem rcv_hello (hc : gcode s = 0) (hd : decide (de < gD s) = false) (hk : gK s = 3) : rcvE true s de K E = conE joinI (inB 1 de (gD s)) K E (gD s) ∧ rcvK true s de K = conK joinK (inB 1 de (gD s)) K (gD s) ∧ rcvN true s de K ac = ac ∧ rcvI true s de K = 0 ∧ rcvC true s de K = 2 := by
  have hs := rcvS_go hc hd hk (by decide)
  unfold rcvE rcvK rcvN rcvI rcvC
  rw [hs, hc, hd, hk]
  exact ⟨rfl, rfl, rfl, rfl, rfl⟩
theorem rcv_stale {k : Int} (hc : gcode s = 0) (hd : decide (de < gD s) = false) (hk : gK s = k) (h1 : k = 2 ∨ k = 4) (hz : rcvA K s = 0) : rcvE true s de K E = E ∧ rcvK true s de K = K ∧ rcvN true s de K ac = ac ∧ rcvI true s de K = 0 ∧ rcvC true s de K = 9 := by
  have hs := rcvS_go hc hd hk (by omega)
  unfold rcvE rcvK rcvN rcvI rcvC
  rw [hs, hc, hd, hk, hz]
  rcases h1 with rfl | rfl <;> exact ⟨rfl, rfl, rfl, rfl, rfl⟩
theorem rcv_ack (hc : gcode s = 0) (hd : decide (de < gD s) = false) (hk : gK s = 2) (hz : rcvA K s ≠ 0) : rcvE true s de K E = goneE (rcvA K s) E ∧ rcvK true s de K = K.set (gD s - 1).toNat (ansK (K.getD (gD s - 1).toNat lk0) (gE s) (gS s)) ∧ rcvN true s de K ac = ac + 1 ∧ rcvI true s de K = rcvA K s ∧ rcvC true s de K = 0 := by
  have hs := rcvS_go hc hd hk (by decide)
  have hz' : (rcvA K s == 0) = false := by simpa using hz
  unfold rcvE rcvK rcvN rcvI rcvC
  rw [hs, hc, hd, hk, hz']
  exact ⟨rfl, rfl, rfl, rfl, rfl⟩
theorem rcv_nack (hc : gcode s = 0) (hd : decide (de < gD s) = false) (hk : gK s = 4) (hz : rcvA K s ≠ 0) : rcvE true s de K E = back1 E (rcvA K s) ∧ rcvK true s de K = K.set (gD s - 1).toNat (ansK (K.getD (gD s - 1).toNat lk0) (gE s) (gS s)) ∧ rcvN true s de K ac = ac ∧ rcvI true s de K = rcvA K s ∧ rcvC true s de K = 1 := by
  have hs := rcvS_go hc hd hk (by decide)
  have hz' : (rcvA K s == 0) = false := by simpa using hz
  unfold rcvE rcvK rcvN rcvI rcvC
  rw [hs, hc, hd, hk, hz']
  exact ⟨rfl, rfl, rfl, rfl, rfl⟩
end

set_option maxRecDepth 100000 in
set_option maxHeartbeats 8000000 in
theorem receive_any (w : World) (B kb : Nat) (de qu wi ti qa bu le pb pc pj pt nw la : Int) (ea : Option Addr) (ec : Nat) (ka : Option Addr) (kc : Nat) (tu : Int) (fa : Option Addr) (fc : Nat) (ra : Option Addr) (rc : Nat) (tk ac dr : Int) (vs : List Value) (E : List Ev) (K : List Lk) (F R : List Int) (gk : Bool) (s : ByteArray) (hE : ∀ e ∈ E, (Lit.int .i64 e.i).wf = true) (hR : ∀ x ∈ R, (Lit.int .i64 x).wf = true) (hgk : gk = (gokB de qu wi ti qa bu le pb pc pj pt nw la E.length K.length tu F.length R.length tk ac dr E K F R)) (hx : Box w kb 72 [.int .i64 de, .int .i64 qu, .int .i64 wi, .int .i64 ti, .int .i64 qa, .int .i64 bu, .int .i64 le, .int .i64 pb, .int .i64 pc, .int .i64 pj, .int .i64 pt, .int .i64 nw, .int .i64 la, .slice ea E.length ec, .slice ka K.length kc, .int .i64 tu, .slice fa F.length fc, .slice ra R.length rc, .int .i64 tk, .int .i64 ac, .int .i64 dr]) (hkb : B ≤ kb) (h : GOwn B w (.slice ea E.length ec) (.slice ka K.length kc) (.slice fa F.length fc) (.slice ra R.length rc) vs E K F R) (hB : B ≤ w.heap.size) (hs : Small E.length K.length F.length R.length K) (hsz : s.size ≤ 281474976710656) :
    Calls Tryz.prog 57 #[.pointer (some ⟨kb, 0, none⟩), .string s] w fun e w' => e = .returned (.tuple #[.int .i64 (rcvI gk s de K), errV (rcvC gk s de K)]) ∧ Box w' kb 72 [.int .i64 de, .int .i64 qu, .int .i64 wi, .int .i64 ti, .int .i64 qa, .int .i64 bu, .int .i64 le, .int .i64 pb, .int .i64 pc, .int .i64 pj, .int .i64 pt, .int .i64 nw, .int .i64 la, .slice ea (rcvE gk s de K E).length ec, .slice ka (rcvK gk s de K).length kc, .int .i64 tu, .slice fa F.length fc, .slice ra R.length rc, .int .i64 tk, .int .i64 (rcvN gk s de K ac), .int .i64 dr] ∧ (∃ vs', GOwn B w' (.slice ea (rcvE gk s de K E).length ec) (.slice ka (rcvK gk s de K).length kc) (.slice fa F.length fc) (.slice ra R.length rc) vs' (rcvE gk s de K E) (rcvK gk s de K) F R) ∧ Below B w w' := by
  have hmi : ∀ (v : Value) (w : World), (Instr.makeInterface 136 v).run Tryz.prog w = .ok (.iface 136 v) w := fun v w => by kernel_rfl
  obtain ⟨EQ, hEQ⟩ : ∃ x, x = rcvE gk s de K E := ⟨_, rfl⟩
  obtain ⟨KQ, hKQ⟩ : ∃ x, x = rcvK gk s de K := ⟨_, rfl⟩
  obtain ⟨NQ, hNQ⟩ : ∃ x, x = rcvN gk s de K ac := ⟨_, rfl⟩
  obtain ⟨IQ, hIQ⟩ : ∃ x, x = rcvI gk s de K := ⟨_, rfl⟩
  obtain ⟨CQ, hCQ⟩ : ∃ x, x = rcvC gk s de K := ⟨_, rfl⟩
  rw [← hEQ, ← hKQ, ← hNQ, ← hIQ, ← hCQ]
  have HEQ := Lib.hid hEQ
  have HKQ := Lib.hid hKQ
  have HNQ := Lib.hid hNQ
  have HIQ := Lib.hid hIQ
  have HCQ := Lib.hid hCQ
  have HX := Lib.hid hx
  have HO := Lib.hid h
  have HL := Lib.hid (Below.refl B w)
  have HBW := Lib.hid hB
  have HSM := Lib.hid hs
  have HEw := Lib.hid hE
  have HRw := Lib.hid hR
  have HGK := Lib.hid hgk
  clear hEQ hKQ hNQ hIQ hCQ hx h hs hE hR hgk
  go_enter Tryz.func57, Tryz.ntmps57
  go_wp2_with (first | (refine wpList_load_box rfl _ 32 rfl rfl HX.out _ Tryz.underlying32 sizeGate ?_) | fail)
  refine (implGokB_any w de qu wi ti qa bu le pb pc pj pt nw la ea E.length ec ka K.length kc tu fa F.length fc ra R.length rc tk ac dr E K F R HEw.out HRw.out HSM.out.1 HSM.out.2.2.2.2 HO.out.is).mono ?_
  rintro e w1 ⟨rfl, hb⟩
  rw [← HGK.out]
  replace HX := Lib.hid (HX.out.below hb)
  replace HO := Lib.hid (HO.out.below hb)
  replace HL := Lib.hid (HL.out.trans (hb.mono HBW.out))
  replace HBW := Lib.hid (Nat.le_trans HBW.out hb.size)
  clear hb
  cases gk with
  | false =>
    obtain ⟨e1, e2, e3, e4, e5⟩ := rcv_bad (s := s) (de := de) (K := K) (E := E) (ac := ac)
    rw [← HEQ.out] at e1
    rw [← HKQ.out] at e2
    rw [← HNQ.out] at e3
    rw [← HIQ.out] at e4
    rw [← HCQ.out] at e5
    have E1 := Lib.hid e1
    have E2 := Lib.hid e2
    have E3 := Lib.hid e3
    have E4 := Lib.hid e4
    have E5 := Lib.hid e5
    clear e1 e2 e3 e4 e5
    go_wp2_with fail
    go_ret2
    exact ⟨by rw [E4.out, E5.out, errV_ne (by decide)]; rfl, by rw [E1.out, E2.out, E3.out]; exact HX.out, ⟨_, by rw [E1.out, E2.out]; exact HO.out⟩, HL.out⟩
  | true =>
  have HKD := Lib.hid (gok_kd HGK.out.symm)
  have HIJ := Lib.hid (gok_inj HGK.out.symm)
  have HAC := Lib.hid (gok_ac HGK.out.symm)
  go_wp2_with (first | (refine wpList_load_box rfl _ 32 rfl rfl HX.out _ Tryz.underlying32 sizeGate ?_) | fail)
  refine (readFor_any w1 de qu wi ti qa bu le pb pc pj pt nw la ea E.length ec ka K.length kc tu fa F.length fc ra R.length rc tk ac dr s hsz).mono ?_
  rintro e w2 ⟨⟨kd, fd, fe, fs, fi, fb, rfl, hfr⟩, hb⟩
  replace HX := Lib.hid (HX.out.below hb)
  replace HO := Lib.hid (HO.out.below hb)
  replace HL := Lib.hid (HL.out.trans (hb.mono HBW.out))
  replace HBW := Lib.hid (Nat.le_trans HBW.out hb.size)
  clear hb
  have HFR := Lib.hid hfr
  clear hfr
  obtain ⟨er, her⟩ : ∃ x, x = errV (rdC s de) := ⟨_, rfl⟩
  rw [← her]
  have HER := Lib.hid her
  clear her
  obtain ⟨kf, hkf⟩ : ∃ k, k = w2.heap.size := ⟨_, rfl⟩
  go_upto_region 4 with fail
  obtain ⟨V0, hV0⟩ : ∃ V, V = w2.alloc (.cells #[.int .i64 kd, .int .i64 fd, .int .i64 fe, .int .i64 fs, .int .i64 fi, .string fb] 51) := ⟨_, rfl⟩
  have hb := bOne w2 (.cells #[.int .i64 kd, .int .i64 fd, .int .i64 fe, .int .i64 fs, .int .i64 fi, .string fb] 51)
  have HF := Lib.hid (show Box V0 kf 51 [.int .i64 kd, .int .i64 fd, .int .i64 fe, .int .i64 fs, .int .i64 fi, .string fb] by rw [hV0, hkf]; exact Box.new w2 [.int .i64 kd, .int .i64 fd, .int .i64 fe, .int .i64 fs, .int .i64 fi, .string fb] 51)
  rw [← hV0] at hb ⊢
  rw [← hkf]
  replace HX := Lib.hid (HX.out.below hb)
  replace HO := Lib.hid (HO.out.below hb)
  replace HL := Lib.hid (HL.out.trans (hb.mono HBW.out))
  replace HBW := Lib.hid (Nat.le_trans HBW.out hb.size)
  clear hb hV0 hkf
  cases hc : (gcode s != 0) with
  | true =>
    have hne : 2 + gcode s ≠ 0 := by have := gcode_rng s; omega
    have her : er = .iface 136 (.int .i64 (2 + gcode s)) := by
      rw [HER.out]
      unfold rdC
      rw [hc]
      exact errV_ne hne
    subst her
    have HNE := Lib.hid hne
    have HC := Lib.hid hc
    clear hc hne
    obtain ⟨e1, e2, e3, e4, e5⟩ := rcv_read (de := de) (K := K) (E := E) (ac := ac) HC.out
    rw [← HEQ.out] at e1
    rw [← HKQ.out] at e2
    rw [← HNQ.out] at e3
    rw [← HIQ.out] at e4
    rw [← HCQ.out] at e5
    have E1 := Lib.hid e1
    have E2 := Lib.hid e2
    have E3 := Lib.hid e3
    have E4 := Lib.hid e4
    have E5 := Lib.hid e5
    clear e1 e2 e3 e4 e5
    go_wp2_with fail
    go_ret2
    exact ⟨by rw [E4.out, E5.out, errV_ne HNE.out]; rfl, by rw [E1.out, E2.out, E3.out]; exact HX.out, ⟨_, by rw [E1.out, E2.out]; exact HO.out⟩, HL.out⟩
  | false =>
  have hc0 : gcode s = 0 := by simpa using hc
  have HC := Lib.hid hc0
  obtain ⟨rfl, rfl, rfl, rfl⟩ := HFR.out hc0
  clear HFR hc hc0
  cases hd : decide (de < gD s) with
  | true =>
    have her : er = .iface 136 (.int .i64 7) := by
      rw [HER.out]
      unfold rdC
      rw [HC.out, hd]
      exact errV_ne (by decide)
    subst her
    have HD := Lib.hid hd
    clear hd
    obtain ⟨e1, e2, e3, e4, e5⟩ := rcv_dev (K := K) (E := E) (ac := ac) HC.out HD.out
    rw [← HEQ.out] at e1
    rw [← HKQ.out] at e2
    rw [← HNQ.out] at e3
    rw [← HIQ.out] at e4
    rw [← HCQ.out] at e5
    have E1 := Lib.hid e1
    have E2 := Lib.hid e2
    have E3 := Lib.hid e3
    have E4 := Lib.hid e4
    have E5 := Lib.hid e5
    clear e1 e2 e3 e4 e5
    go_wp2_with fail
    go_ret2
    exact ⟨by rw [E4.out, E5.out, errV_ne (by decide)]; rfl, by rw [E1.out, E2.out, E3.out]; exact HX.out, ⟨_, by rw [E1.out, E2.out]; exact HO.out⟩, HL.out⟩
  | false =>
  have her : er = .nilIface := by
    rw [HER.out]
    unfold rdC
    rw [HC.out, hd]
    rfl
  subst her
  have HD := Lib.hid hd
  have HFO := Lib.hid (told_len HC.out).2.2.1
  have hfo : 1 ≤ gD s ∧ gD s ≤ 6 ∧ 1 ≤ gK s ∧ gK s ≤ 4 := by have h := HFO.out; unfold Frm.FOk at h; omega
  have hd1 : 1 ≤ gD s := hfo.1
  have hd2 : gD s ≤ de := by have := of_decide_eq_false hd; omega
  have hk4 := hfo.2.2
  clear hd HER HFO hfo
  obtain ⟨kk, hkk⟩ : ∃ x, x = gK s := ⟨_, rfl⟩
  rw [← hkk] at hk4 HF ⊢
  have HKK := Lib.hid hkk.symm
  clear hkk
  go_upto_region 6 with fail

  rcases (show kk = 1 ∨ kk = 2 ∨ kk = 3 ∨ kk = 4 by omega) with rfl | rfl | rfl | rfl
  · clear hk4
    have hb := below_drew' (Below.refl V0.heap.size V0)
    replace HX := Lib.hid (HX.out.below hb)
    replace HO := Lib.hid (HO.out.below hb)
    replace HL := Lib.hid (HL.out.trans (hb.mono HBW.out))
    replace HBW := Lib.hid (Nat.le_trans HBW.out hb.size)
    replace HF := Lib.hid (HF.out.below hb)
    clear hb
    refine wp_region_held_drew (S := fun w' => w'.cell? ⟨kf, 0, none⟩ = some (.int .i64 1)) (by kernel_rfl) (HF.out.cell 0 _ rfl) (fun hHeld => ?_)
    obtain ⟨wd, hwd⟩ : ∃ x, x = V0.drew := ⟨_, rfl⟩
    rw [← hwd] at HX HO HL HBW HF hHeld ⊢
    clear hwd
    refine wpAnyH_take (i := 1) (oi := { dst := some _, op := _, type := _, pos := _, after := _, guard := _ }) (v := ?_) rfl (by kernel_rfl) (by kernel_rfl) (by kernel_rfl) (fun _ _ _ h => h) ?_ (by with_reducible assumption) ?_
    rotate_left 1
    focus (refine Or.inl ⟨by rfl, ?_⟩; intro wq hSw; go_simp; try with_reducible rfl)
    try simp only [Act.put, List.setIfInBounds_toArray, List.set_cons_zero, List.set_cons_succ]
    refine wpAnyH_take (i := 2) (oi := { dst := some _, op := _, type := _, pos := _, after := _, guard := _ }) (v := ?_) rfl (by kernel_rfl) (by kernel_rfl) (by kernel_rfl) (fun _ _ _ h => h) ?_ (by with_reducible assumption) ?_
    rotate_left 1
    focus (refine Or.inl ⟨by rfl, ?_⟩; intro wq hSw; have q := hSw; go_simp; try with_reducible rfl)
    try simp only [Act.put, List.setIfInBounds_toArray, List.set_cons_zero, List.set_cons_succ]
    refine wpAnyH_ready (rs := [0]) (by kernel_rfl) (by simp) ?_
    refine AllReadyH.cons rfl (fun KC hKC => ?_) AllReadyH.nil
    go_simp
    refine (answers_any _).mono ?_
    rintro e w3 ⟨rfl, hm, hb⟩
    obtain ⟨bm, hbm⟩ : ∃ b, b = wd.heap.size := ⟨_, rfl⟩
    rw [← hbm] at hm ⊢
    replace HX := Lib.hid (HX.out.below hb)
    replace HO := Lib.hid (HO.out.below hb)
    replace HL := Lib.hid (HL.out.trans (hb.mono HBW.out))
    replace HBW := Lib.hid (Nat.le_trans HBW.out hb.size)
    replace HF := Lib.hid (HF.out.below hb)
    clear hb hHeld hbm
    dsimp only
    refine hKC.out _ _ ((HF.out.cell 0 _ rfl)) (fun hHeld => ?_)
    clear hKC
    try simp only [Act.put, List.setIfInBounds_toArray, List.set_cons_zero, List.set_cons_succ]
    have hlk := AnsM.look hm 1 _ (.nilFunc) false rfl rfl (.inr ⟨rfl, rfl, fun w => by kernel_rfl⟩)
    refine wpAnyH_ready (rs := [3]) (by kernel_rfl) (by simp) ?_
    refine AllReadyH.cons rfl (fun KL hKL => ?_) AllReadyH.nil
    go_simp
    refine hKL.out _ _ ((HF.out.cell 0 _ rfl)) (fun hHeld => ?_)
    clear hKL
    try simp only [Act.put, List.setIfInBounds_toArray, List.set_cons_zero, List.set_cons_succ]
    refine wpAnyH_take (i := 4) (oi := { dst := some _, op := _, type := _, pos := _, after := _, guard := _ }) (v := ?_) rfl (by kernel_rfl) (by kernel_rfl) (by kernel_rfl) (fun _ _ _ h => h) ?_ (by with_reducible assumption) ?_
    rotate_left 1
    focus (refine Or.inl ⟨by rfl, ?_⟩; intro wq hSw; go_simp; try with_reducible rfl)
    try simp only [Act.put, List.setIfInBounds_toArray, List.set_cons_zero, List.set_cons_succ]
    refine wpAnyH_take (i := 5) (oi := { dst := some _, op := _, type := _, pos := _, after := _, guard := _ }) (v := ?_) rfl (by kernel_rfl) (by kernel_rfl) (by kernel_rfl) (fun _ _ _ h => h) ?_ (by with_reducible assumption) ?_
    rotate_left 1
    focus (refine Or.inl ⟨by rfl, ?_⟩; intro wq hSw; go_simp; try with_reducible rfl)
    try simp only [Act.put, List.setIfInBounds_toArray, List.set_cons_zero, List.set_cons_succ]
    refine wpAnyH_take (i := 6) (oi := { dst := some _, op := _, type := _, pos := _, after := _, guard := _ }) (v := ?_) rfl (by kernel_rfl) (by kernel_rfl) (by kernel_rfl) (fun _ _ _ h => h) ?_ (by with_reducible assumption) ?_
    rotate_left 1
    focus (refine Or.inl ⟨by rfl, ?_⟩; intro wq hSw; go_simp; try with_reducible rfl)
    try simp only [Act.put, List.setIfInBounds_toArray, List.set_cons_zero, List.set_cons_succ]
    refine wpAnyH_take (i := 7) (oi := { dst := some _, op := _, type := _, pos := _, after := _, guard := _ }) (v := ?_) rfl (by kernel_rfl) (by kernel_rfl) (by kernel_rfl) (fun _ _ _ h => h) ?_ (by with_reducible assumption) ?_
    rotate_left 1
    focus (refine Or.inl ⟨by rfl, ?_⟩; intro wq hSw; go_simp; try with_reducible rfl)
    try simp only [Act.put, List.setIfInBounds_toArray, List.set_cons_zero, List.set_cons_succ]
    refine wpAnyH_take (i := 8) (oi := { dst := some _, op := _, type := _, pos := _, after := _, guard := _ }) (v := ?_) rfl (by kernel_rfl) (by kernel_rfl) (by kernel_rfl) (fun _ _ _ h => h) ?_ (by with_reducible assumption) ?_
    rotate_left 1
    focus (refine Or.inl ⟨by rfl, ?_⟩; intro wq hSw; go_simp; try with_reducible rfl)
    try simp only [Act.put, List.setIfInBounds_toArray, List.set_cons_zero, List.set_cons_succ]
    refine wpAnyH_done (by kernel_rfl) ?_ _
    clear hHeld hlk hm
    obtain ⟨e1, e2, e3, e4, e5⟩ := rcv_odd (K := K) (E := E) (ac := ac) HC.out HD.out HKK.out
    rw [← HEQ.out] at e1
    rw [← HKQ.out] at e2
    rw [← HNQ.out] at e3
    rw [← HIQ.out] at e4
    rw [← HCQ.out] at e5
    have E1 := Lib.hid e1
    have E2 := Lib.hid e2
    have E3 := Lib.hid e3
    have E4 := Lib.hid e4
    have E5 := Lib.hid e5
    clear e1 e2 e3 e4 e5
    go_wp2_with fail
    go_ret2
    exact ⟨by rw [E4.out, E5.out, errV_ne (by decide)]; rfl, by rw [E1.out, E2.out, E3.out]; exact HX.out, ⟨_, by rw [E1.out, E2.out]; exact HO.out⟩, HL.out⟩
  · clear hk4
    have hb := below_drew' (Below.refl V0.heap.size V0)
    replace HX := Lib.hid (HX.out.below hb)
    replace HO := Lib.hid (HO.out.below hb)
    replace HL := Lib.hid (HL.out.trans (hb.mono HBW.out))
    replace HBW := Lib.hid (Nat.le_trans HBW.out hb.size)
    replace HF := Lib.hid (HF.out.below hb)
    clear hb
    refine wp_region_held_drew (S := fun w' => w'.cell? ⟨kf, 0, none⟩ = some (.int .i64 2)) (by kernel_rfl) (HF.out.cell 0 _ rfl) (fun hHeld => ?_)
    obtain ⟨wd, hwd⟩ : ∃ x, x = V0.drew := ⟨_, rfl⟩
    rw [← hwd] at HX HO HL HBW HF hHeld ⊢
    clear hwd
    refine wpAnyH_take (i := 1) (oi := { dst := some _, op := _, type := _, pos := _, after := _, guard := _ }) (v := ?_) rfl (by kernel_rfl) (by kernel_rfl) (by kernel_rfl) (fun _ _ _ h => h) ?_ (by with_reducible assumption) ?_
    rotate_left 1
    focus (refine Or.inl ⟨by rfl, ?_⟩; intro wq hSw; go_simp; try with_reducible rfl)
    try simp only [Act.put, List.setIfInBounds_toArray, List.set_cons_zero, List.set_cons_succ]
    refine wpAnyH_take (i := 2) (oi := { dst := some _, op := _, type := _, pos := _, after := _, guard := _ }) (v := ?_) rfl (by kernel_rfl) (by kernel_rfl) (by kernel_rfl) (fun _ _ _ h => h) ?_ (by with_reducible assumption) ?_
    rotate_left 1
    focus (refine Or.inl ⟨by rfl, ?_⟩; intro wq hSw; have q := hSw; go_simp; try with_reducible rfl)
    try simp only [Act.put, List.setIfInBounds_toArray, List.set_cons_zero, List.set_cons_succ]
    refine wpAnyH_ready (rs := [0]) (by kernel_rfl) (by simp) ?_
    refine AllReadyH.cons rfl (fun KC hKC => ?_) AllReadyH.nil
    go_simp
    refine (answers_any _).mono ?_
    rintro e w3 ⟨rfl, hm, hb⟩
    obtain ⟨bm, hbm⟩ : ∃ b, b = wd.heap.size := ⟨_, rfl⟩
    rw [← hbm] at hm ⊢
    replace HX := Lib.hid (HX.out.below hb)
    replace HO := Lib.hid (HO.out.below hb)
    replace HL := Lib.hid (HL.out.trans (hb.mono HBW.out))
    replace HBW := Lib.hid (Nat.le_trans HBW.out hb.size)
    replace HF := Lib.hid (HF.out.below hb)
    clear hb hHeld hbm
    dsimp only
    refine hKC.out _ _ ((HF.out.cell 0 _ rfl)) (fun hHeld => ?_)
    clear hKC
    try simp only [Act.put, List.setIfInBounds_toArray, List.set_cons_zero, List.set_cons_succ]
    have hlk := AnsM.look hm 2 _ (.func (.func 146) #[] #[]) true rfl rfl (.inl ⟨0, rfl, rfl⟩)
    refine wpAnyH_ready (rs := [3]) (by kernel_rfl) (by simp) ?_
    refine AllReadyH.cons rfl (fun KL hKL => ?_) AllReadyH.nil
    go_simp
    refine hKL.out _ _ ((HF.out.cell 0 _ rfl)) (fun hHeld => ?_)
    clear hKL
    try simp only [Act.put, List.setIfInBounds_toArray, List.set_cons_zero, List.set_cons_succ]
    refine wpAnyH_take (i := 4) (oi := { dst := some _, op := _, type := _, pos := _, after := _, guard := _ }) (v := ?_) rfl (by kernel_rfl) (by kernel_rfl) (by kernel_rfl) (fun _ _ _ h => h) ?_ (by with_reducible assumption) ?_
    rotate_left 1
    focus (refine Or.inl ⟨by rfl, ?_⟩; intro wq hSw; go_simp; try with_reducible rfl)
    try simp only [Act.put, List.setIfInBounds_toArray, List.set_cons_zero, List.set_cons_succ]
    refine wpAnyH_take (i := 5) (oi := { dst := some _, op := _, type := _, pos := _, after := _, guard := _ }) (v := ?_) rfl (by kernel_rfl) (by kernel_rfl) (by kernel_rfl) (fun _ _ _ h => h) ?_ (by with_reducible assumption) ?_
    rotate_left 1
    focus (refine Or.inl ⟨by rfl, ?_⟩; intro wq hSw; go_simp; try with_reducible rfl)
    try simp only [Act.put, List.setIfInBounds_toArray, List.set_cons_zero, List.set_cons_succ]
    refine wpAnyH_take (i := 6) (oi := { dst := some _, op := _, type := _, pos := _, after := _, guard := _ }) (v := ?_) rfl (by kernel_rfl) (by kernel_rfl) (by kernel_rfl) (fun _ _ _ h => h) ?_ (by with_reducible assumption) ?_
    rotate_left 1
    focus (refine Or.inl ⟨by rfl, ?_⟩; intro wq hSw; go_simp; try with_reducible rfl)
    try simp only [Act.put, List.setIfInBounds_toArray, List.set_cons_zero, List.set_cons_succ]
    refine wpAnyH_take (i := 7) (oi := { dst := some _, op := _, type := _, pos := _, after := _, guard := _ }) (v := ?_) rfl (by kernel_rfl) (by kernel_rfl) (by kernel_rfl) (fun _ _ _ h => h) ?_ (by with_reducible assumption) ?_
    rotate_left 1
    focus (refine Or.inl ⟨by rfl, ?_⟩; intro wq hSw; go_simp; try with_reducible rfl)
    try simp only [Act.put, List.setIfInBounds_toArray, List.set_cons_zero, List.set_cons_succ]
    refine wpAnyH_take (i := 8) (oi := { dst := some _, op := _, type := _, pos := _, after := _, guard := _ }) (v := ?_) rfl (by kernel_rfl) (by kernel_rfl) (by kernel_rfl) (fun _ _ _ h => h) ?_ (by with_reducible assumption) ?_
    rotate_left 1
    focus (refine Or.inl ⟨by rfl, ?_⟩; intro wq hSw; go_simp; try with_reducible rfl)
    try simp only [Act.put, List.setIfInBounds_toArray, List.set_cons_zero, List.set_cons_succ]
    refine wpAnyH_done (by kernel_rfl) ?_ _
    clear hHeld hlk hm
    have heg : ∀ (args : Array Value) (w1 : World), (callFunc 146 args).run Tryz.prog w1 = .ok (.enter 146 args) w1 := enters_of Tryz.func146 (by kernel_rfl) rfl
    go_wp2_with (first | (refine wpList_load_box rfl _ 51 rfl rfl HF.out _ Tryz.underlying51 sizeFrm ?_) | fail)
    refine (ack_any _ B kb de qu wi ti qa bu le pb pc pj pt nw la ea ec ka kc tu fa fc ra rc tk ac dr vs E K F R 2 (gD s) (gE s) (gS s) fi fb HX.out hkb HO.out HBW.out HSM.out HKD.out.1 HKD.out.2 hd1 hd2 HAC.out).mono ?_
    rintro e w4 ⟨h0, h1, hl⟩
    obtain ⟨rv, hrv⟩ : ∃ x, x = rcvA K s := ⟨_, rfl⟩
    rw [show ansId (K.getD (gD s - 1).toNat lk0) (gE s) (gS s) = rv from hrv.symm] at h0 h1
    have HRV := Lib.hid hrv
    clear hrv
    by_cases hz : rv = 0
    · obtain ⟨rfl, hx, vs', ho⟩ := h0 hz
      have HZ := Lib.hid hz
      clear h0 h1 hz heg
      replace HX := Lib.hid hx
      replace HO := Lib.hid ho
      replace HL := Lib.hid (HL.out.trans hl)
      clear hx ho hl
      obtain ⟨e1, e2, e3, e4, e5⟩ := rcv_stale (E := E) (ac := ac) HC.out HD.out HKK.out (.inl rfl) (HRV.out.symm.trans HZ.out)
      rw [← HEQ.out] at e1
      rw [← HKQ.out] at e2
      rw [← HNQ.out] at e3
      rw [← HIQ.out] at e4
      rw [← HCQ.out] at e5
      have E1 := Lib.hid e1
      have E2 := Lib.hid e2
      have E3 := Lib.hid e3
      have E4 := Lib.hid e4
      have E5 := Lib.hid e5
      clear e1 e2 e3 e4 e5
      go_wp2_with fail
      go_ret2
      exact ⟨by rw [E4.out, E5.out]; rfl, by rw [E1.out, E2.out, E3.out]; exact HX.out, ⟨_, by rw [E1.out, E2.out]; exact HO.out⟩, HL.out⟩
    · obtain ⟨rfl, hx, vs', ho⟩ := h1 hz
      have HZ := Lib.hid hz
      clear h0 h1 hz heg
      replace HX := Lib.hid hx
      replace HO := Lib.hid ho
      replace HL := Lib.hid (HL.out.trans hl)
      clear hx ho hl
      obtain ⟨e1, e2, e3, e4, e5⟩ := rcv_ack (E := E) (ac := ac) HC.out HD.out HKK.out (fun h => HZ.out (HRV.out.trans h))
      rw [← HEQ.out] at e1
      rw [← HKQ.out] at e2
      rw [← HNQ.out] at e3
      rw [← HIQ.out] at e4
      rw [← HCQ.out] at e5
      have E1 := Lib.hid e1
      have E2 := Lib.hid e2
      have E3 := Lib.hid e3
      have E4 := Lib.hid e4
      have E5 := Lib.hid e5
      clear e1 e2 e3 e4 e5
      go_wp2_with fail
      go_ret2
      exact ⟨by rw [E4.out, E5.out, ← HRV.out]; rfl, by rw [E1.out, E2.out, E3.out]; rw [← HRV.out, List.length_set]; exact HX.out, ⟨_, by rw [E1.out, E2.out]; rw [← HRV.out, List.length_set]; exact HO.out⟩, HL.out⟩
  · clear hk4
    have hb := below_drew' (Below.refl V0.heap.size V0)
    replace HX := Lib.hid (HX.out.below hb)
    replace HO := Lib.hid (HO.out.below hb)
    replace HL := Lib.hid (HL.out.trans (hb.mono HBW.out))
    replace HBW := Lib.hid (Nat.le_trans HBW.out hb.size)
    replace HF := Lib.hid (HF.out.below hb)
    clear hb
    refine wp_region_held_drew (S := fun w' => w'.cell? ⟨kf, 0, none⟩ = some (.int .i64 3)) (by kernel_rfl) (HF.out.cell 0 _ rfl) (fun hHeld => ?_)
    obtain ⟨wd, hwd⟩ : ∃ x, x = V0.drew := ⟨_, rfl⟩
    rw [← hwd] at HX HO HL HBW HF hHeld ⊢
    clear hwd
    refine wpAnyH_take (i := 1) (oi := { dst := some _, op := _, type := _, pos := _, after := _, guard := _ }) (v := ?_) rfl (by kernel_rfl) (by kernel_rfl) (by kernel_rfl) (fun _ _ _ h => h) ?_ (by with_reducible assumption) ?_
    rotate_left 1
    focus (refine Or.inl ⟨by rfl, ?_⟩; intro wq hSw; go_simp; try with_reducible rfl)
    try simp only [Act.put, List.setIfInBounds_toArray, List.set_cons_zero, List.set_cons_succ]
    refine wpAnyH_take (i := 2) (oi := { dst := some _, op := _, type := _, pos := _, after := _, guard := _ }) (v := ?_) rfl (by kernel_rfl) (by kernel_rfl) (by kernel_rfl) (fun _ _ _ h => h) ?_ (by with_reducible assumption) ?_
    rotate_left 1
    focus (refine Or.inl ⟨by rfl, ?_⟩; intro wq hSw; have q := hSw; go_simp; try with_reducible rfl)
    try simp only [Act.put, List.setIfInBounds_toArray, List.set_cons_zero, List.set_cons_succ]
    refine wpAnyH_ready (rs := [0]) (by kernel_rfl) (by simp) ?_
    refine AllReadyH.cons rfl (fun KC hKC => ?_) AllReadyH.nil
    go_simp
    refine (answers_any _).mono ?_
    rintro e w3 ⟨rfl, hm, hb⟩
    obtain ⟨bm, hbm⟩ : ∃ b, b = wd.heap.size := ⟨_, rfl⟩
    rw [← hbm] at hm ⊢
    replace HX := Lib.hid (HX.out.below hb)
    replace HO := Lib.hid (HO.out.below hb)
    replace HL := Lib.hid (HL.out.trans (hb.mono HBW.out))
    replace HBW := Lib.hid (Nat.le_trans HBW.out hb.size)
    replace HF := Lib.hid (HF.out.below hb)
    clear hb hHeld hbm
    dsimp only
    refine hKC.out _ _ ((HF.out.cell 0 _ rfl)) (fun hHeld => ?_)
    clear hKC
    try simp only [Act.put, List.setIfInBounds_toArray, List.set_cons_zero, List.set_cons_succ]
    have hlk := AnsM.look hm 3 _ (.func (.func 148) #[] #[]) true rfl rfl (.inl ⟨2, rfl, rfl⟩)
    refine wpAnyH_ready (rs := [3]) (by kernel_rfl) (by simp) ?_
    refine AllReadyH.cons rfl (fun KL hKL => ?_) AllReadyH.nil
    go_simp
    refine hKL.out _ _ ((HF.out.cell 0 _ rfl)) (fun hHeld => ?_)
    clear hKL
    try simp only [Act.put, List.setIfInBounds_toArray, List.set_cons_zero, List.set_cons_succ]
    refine wpAnyH_take (i := 4) (oi := { dst := some _, op := _, type := _, pos := _, after := _, guard := _ }) (v := ?_) rfl (by kernel_rfl) (by kernel_rfl) (by kernel_rfl) (fun _ _ _ h => h) ?_ (by with_reducible assumption) ?_
    rotate_left 1
    focus (refine Or.inl ⟨by rfl, ?_⟩; intro wq hSw; go_simp; try with_reducible rfl)
    try simp only [Act.put, List.setIfInBounds_toArray, List.set_cons_zero, List.set_cons_succ]
    refine wpAnyH_take (i := 5) (oi := { dst := some _, op := _, type := _, pos := _, after := _, guard := _ }) (v := ?_) rfl (by kernel_rfl) (by kernel_rfl) (by kernel_rfl) (fun _ _ _ h => h) ?_ (by with_reducible assumption) ?_
    rotate_left 1
    focus (refine Or.inl ⟨by rfl, ?_⟩; intro wq hSw; go_simp; try with_reducible rfl)
    try simp only [Act.put, List.setIfInBounds_toArray, List.set_cons_zero, List.set_cons_succ]
    refine wpAnyH_take (i := 6) (oi := { dst := some _, op := _, type := _, pos := _, after := _, guard := _ }) (v := ?_) rfl (by kernel_rfl) (by kernel_rfl) (by kernel_rfl) (fun _ _ _ h => h) ?_ (by with_reducible assumption) ?_
    rotate_left 1
    focus (refine Or.inl ⟨by rfl, ?_⟩; intro wq hSw; go_simp; try with_reducible rfl)
    try simp only [Act.put, List.setIfInBounds_toArray, List.set_cons_zero, List.set_cons_succ]
    refine wpAnyH_take (i := 7) (oi := { dst := some _, op := _, type := _, pos := _, after := _, guard := _ }) (v := ?_) rfl (by kernel_rfl) (by kernel_rfl) (by kernel_rfl) (fun _ _ _ h => h) ?_ (by with_reducible assumption) ?_
    rotate_left 1
    focus (refine Or.inl ⟨by rfl, ?_⟩; intro wq hSw; go_simp; try with_reducible rfl)
    try simp only [Act.put, List.setIfInBounds_toArray, List.set_cons_zero, List.set_cons_succ]
    refine wpAnyH_take (i := 8) (oi := { dst := some _, op := _, type := _, pos := _, after := _, guard := _ }) (v := ?_) rfl (by kernel_rfl) (by kernel_rfl) (by kernel_rfl) (fun _ _ _ h => h) ?_ (by with_reducible assumption) ?_
    rotate_left 1
    focus (refine Or.inl ⟨by rfl, ?_⟩; intro wq hSw; go_simp; try with_reducible rfl)
    try simp only [Act.put, List.setIfInBounds_toArray, List.set_cons_zero, List.set_cons_succ]
    refine wpAnyH_done (by kernel_rfl) ?_ _
    clear hHeld hlk hm
    have heg : ∀ (args : Array Value) (w1 : World), (callFunc 148 args).run Tryz.prog w1 = .ok (.enter 148 args) w1 := enters_of Tryz.func148 (by kernel_rfl) rfl
    go_wp2_with (first | (refine wpList_load_box rfl _ 51 rfl rfl HF.out _ Tryz.underlying51 sizeFrm ?_) | fail)
    refine (hello_any _ B kb de qu wi ti qa bu le pb pc pj pt nw la ea ec ka kc tu fa fc ra rc tk ac dr vs E K F R 3 (gD s) (gE s) (gS s) fi fb HX.out hkb HO.out HBW.out HSM.out HKD.out.1 HKD.out.2 hd1 hd2).mono ?_
    rintro e w4 ⟨rfl, hx, ⟨vs', ho⟩, hl⟩
    rw [relE_eq HIJ.out] at ho
    clear heg
    replace HX := Lib.hid hx
    replace HO := Lib.hid ho
    replace HL := Lib.hid (HL.out.trans hl)
    clear hx ho hl
    obtain ⟨e1, e2, e3, e4, e5⟩ := rcv_hello (K := K) (E := E) (ac := ac) HC.out HD.out HKK.out
    rw [← HEQ.out] at e1
    rw [← HKQ.out] at e2
    rw [← HNQ.out] at e3
    rw [← HIQ.out] at e4
    rw [← HCQ.out] at e5
    have E1 := Lib.hid e1
    have E2 := Lib.hid e2
    have E3 := Lib.hid e3
    have E4 := Lib.hid e4
    have E5 := Lib.hid e5
    clear e1 e2 e3 e4 e5
    go_wp2_with fail
    go_ret2
    exact ⟨by rw [E4.out, E5.out]; rfl, by rw [E1.out, E2.out, E3.out]; rw [conE_len, conK_len]; exact HX.out, ⟨_, by rw [E1.out, E2.out]; rw [conE_len, conK_len]; exact HO.out⟩, HL.out⟩
  · clear hk4
    have hb := below_drew' (Below.refl V0.heap.size V0)
    replace HX := Lib.hid (HX.out.below hb)
    replace HO := Lib.hid (HO.out.below hb)
    replace HL := Lib.hid (HL.out.trans (hb.mono HBW.out))
    replace HBW := Lib.hid (Nat.le_trans HBW.out hb.size)
    replace HF := Lib.hid (HF.out.below hb)
    clear hb
    refine wp_region_held_drew (S := fun w' => w'.cell? ⟨kf, 0, none⟩ = some (.int .i64 4)) (by kernel_rfl) (HF.out.cell 0 _ rfl) (fun hHeld => ?_)
    obtain ⟨wd, hwd⟩ : ∃ x, x = V0.drew := ⟨_, rfl⟩
    rw [← hwd] at HX HO HL HBW HF hHeld ⊢
    clear hwd
    refine wpAnyH_take (i := 1) (oi := { dst := some _, op := _, type := _, pos := _, after := _, guard := _ }) (v := ?_) rfl (by kernel_rfl) (by kernel_rfl) (by kernel_rfl) (fun _ _ _ h => h) ?_ (by with_reducible assumption) ?_
    rotate_left 1
    focus (refine Or.inl ⟨by rfl, ?_⟩; intro wq hSw; go_simp; try with_reducible rfl)
    try simp only [Act.put, List.setIfInBounds_toArray, List.set_cons_zero, List.set_cons_succ]
    refine wpAnyH_take (i := 2) (oi := { dst := some _, op := _, type := _, pos := _, after := _, guard := _ }) (v := ?_) rfl (by kernel_rfl) (by kernel_rfl) (by kernel_rfl) (fun _ _ _ h => h) ?_ (by with_reducible assumption) ?_
    rotate_left 1
    focus (refine Or.inl ⟨by rfl, ?_⟩; intro wq hSw; have q := hSw; go_simp; try with_reducible rfl)
    try simp only [Act.put, List.setIfInBounds_toArray, List.set_cons_zero, List.set_cons_succ]
    refine wpAnyH_ready (rs := [0]) (by kernel_rfl) (by simp) ?_
    refine AllReadyH.cons rfl (fun KC hKC => ?_) AllReadyH.nil
    go_simp
    refine (answers_any _).mono ?_
    rintro e w3 ⟨rfl, hm, hb⟩
    obtain ⟨bm, hbm⟩ : ∃ b, b = wd.heap.size := ⟨_, rfl⟩
    rw [← hbm] at hm ⊢
    replace HX := Lib.hid (HX.out.below hb)
    replace HO := Lib.hid (HO.out.below hb)
    replace HL := Lib.hid (HL.out.trans (hb.mono HBW.out))
    replace HBW := Lib.hid (Nat.le_trans HBW.out hb.size)
    replace HF := Lib.hid (HF.out.below hb)
    clear hb hHeld hbm
    dsimp only
    refine hKC.out _ _ ((HF.out.cell 0 _ rfl)) (fun hHeld => ?_)
    clear hKC
    try simp only [Act.put, List.setIfInBounds_toArray, List.set_cons_zero, List.set_cons_succ]
    have hlk := AnsM.look hm 4 _ (.func (.func 147) #[] #[]) true rfl rfl (.inl ⟨1, rfl, rfl⟩)
    refine wpAnyH_ready (rs := [3]) (by kernel_rfl) (by simp) ?_
    refine AllReadyH.cons rfl (fun KL hKL => ?_) AllReadyH.nil
    go_simp
    refine hKL.out _ _ ((HF.out.cell 0 _ rfl)) (fun hHeld => ?_)
    clear hKL
    try simp only [Act.put, List.setIfInBounds_toArray, List.set_cons_zero, List.set_cons_succ]
    refine wpAnyH_take (i := 4) (oi := { dst := some _, op := _, type := _, pos := _, after := _, guard := _ }) (v := ?_) rfl (by kernel_rfl) (by kernel_rfl) (by kernel_rfl) (fun _ _ _ h => h) ?_ (by with_reducible assumption) ?_
    rotate_left 1
    focus (refine Or.inl ⟨by rfl, ?_⟩; intro wq hSw; go_simp; try with_reducible rfl)
    try simp only [Act.put, List.setIfInBounds_toArray, List.set_cons_zero, List.set_cons_succ]
    refine wpAnyH_take (i := 5) (oi := { dst := some _, op := _, type := _, pos := _, after := _, guard := _ }) (v := ?_) rfl (by kernel_rfl) (by kernel_rfl) (by kernel_rfl) (fun _ _ _ h => h) ?_ (by with_reducible assumption) ?_
    rotate_left 1
    focus (refine Or.inl ⟨by rfl, ?_⟩; intro wq hSw; go_simp; try with_reducible rfl)
    try simp only [Act.put, List.setIfInBounds_toArray, List.set_cons_zero, List.set_cons_succ]
    refine wpAnyH_take (i := 6) (oi := { dst := some _, op := _, type := _, pos := _, after := _, guard := _ }) (v := ?_) rfl (by kernel_rfl) (by kernel_rfl) (by kernel_rfl) (fun _ _ _ h => h) ?_ (by with_reducible assumption) ?_
    rotate_left 1
    focus (refine Or.inl ⟨by rfl, ?_⟩; intro wq hSw; go_simp; try with_reducible rfl)
    try simp only [Act.put, List.setIfInBounds_toArray, List.set_cons_zero, List.set_cons_succ]
    refine wpAnyH_take (i := 7) (oi := { dst := some _, op := _, type := _, pos := _, after := _, guard := _ }) (v := ?_) rfl (by kernel_rfl) (by kernel_rfl) (by kernel_rfl) (fun _ _ _ h => h) ?_ (by with_reducible assumption) ?_
    rotate_left 1
    focus (refine Or.inl ⟨by rfl, ?_⟩; intro wq hSw; go_simp; try with_reducible rfl)
    try simp only [Act.put, List.setIfInBounds_toArray, List.set_cons_zero, List.set_cons_succ]
    refine wpAnyH_take (i := 8) (oi := { dst := some _, op := _, type := _, pos := _, after := _, guard := _ }) (v := ?_) rfl (by kernel_rfl) (by kernel_rfl) (by kernel_rfl) (fun _ _ _ h => h) ?_ (by with_reducible assumption) ?_
    rotate_left 1
    focus (refine Or.inl ⟨by rfl, ?_⟩; intro wq hSw; go_simp; try with_reducible rfl)
    try simp only [Act.put, List.setIfInBounds_toArray, List.set_cons_zero, List.set_cons_succ]
    refine wpAnyH_done (by kernel_rfl) ?_ _
    clear hHeld hlk hm
    have heg : ∀ (args : Array Value) (w1 : World), (callFunc 147 args).run Tryz.prog w1 = .ok (.enter 147 args) w1 := enters_of Tryz.func147 (by kernel_rfl) rfl
    go_wp2_with (first | (refine wpList_load_box rfl _ 51 rfl rfl HF.out _ Tryz.underlying51 sizeFrm ?_) | fail)
    refine (nack_any _ B kb de qu wi ti qa bu le pb pc pj pt nw la ea ec ka kc tu fa fc ra rc tk ac dr vs E K F R 4 (gD s) (gE s) (gS s) fi fb HX.out hkb HO.out HBW.out HSM.out HKD.out.1 HKD.out.2 hd1 hd2).mono ?_
    rintro e w4 ⟨h0, h1, hl⟩
    obtain ⟨rv, hrv⟩ : ∃ x, x = rcvA K s := ⟨_, rfl⟩
    rw [show ansId (K.getD (gD s - 1).toNat lk0) (gE s) (gS s) = rv from hrv.symm] at h0 h1
    have HRV := Lib.hid hrv
    clear hrv
    by_cases hz : rv = 0
    · obtain ⟨rfl, hx, vs', ho⟩ := h0 hz
      have HZ := Lib.hid hz
      clear h0 h1 hz heg
      replace HX := Lib.hid hx
      replace HO := Lib.hid ho
      replace HL := Lib.hid (HL.out.trans hl)
      clear hx ho hl
      obtain ⟨e1, e2, e3, e4, e5⟩ := rcv_stale (E := E) (ac := ac) HC.out HD.out HKK.out (.inr rfl) (HRV.out.symm.trans HZ.out)
      rw [← HEQ.out] at e1
      rw [← HKQ.out] at e2
      rw [← HNQ.out] at e3
      rw [← HIQ.out] at e4
      rw [← HCQ.out] at e5
      have E1 := Lib.hid e1
      have E2 := Lib.hid e2
      have E3 := Lib.hid e3
      have E4 := Lib.hid e4
      have E5 := Lib.hid e5
      clear e1 e2 e3 e4 e5
      go_wp2_with fail
      go_ret2
      exact ⟨by rw [E4.out, E5.out]; rfl, by rw [E1.out, E2.out, E3.out]; exact HX.out, ⟨_, by rw [E1.out, E2.out]; exact HO.out⟩, HL.out⟩
    · obtain ⟨rfl, hx, vs', ho⟩ := h1 hz
      rw [back1_mapB HIJ.out] at ho
      have HZ := Lib.hid hz
      clear h0 h1 hz heg
      replace HX := Lib.hid hx
      replace HO := Lib.hid ho
      replace HL := Lib.hid (HL.out.trans hl)
      clear hx ho hl
      obtain ⟨e1, e2, e3, e4, e5⟩ := rcv_nack (E := E) (ac := ac) HC.out HD.out HKK.out (fun h => HZ.out (HRV.out.trans h))
      rw [← HEQ.out] at e1
      rw [← HKQ.out] at e2
      rw [← HNQ.out] at e3
      rw [← HIQ.out] at e4
      rw [← HCQ.out] at e5
      have E1 := Lib.hid e1
      have E2 := Lib.hid e2
      have E3 := Lib.hid e3
      have E4 := Lib.hid e4
      have E5 := Lib.hid e5
      clear e1 e2 e3 e4 e5
      go_wp2_with fail
      go_ret2
      exact ⟨by rw [E4.out, E5.out, ← HRV.out]; rfl, by rw [E1.out, E2.out, E3.out]; rw [List.length_set, back1_len]; exact HX.out, ⟨_, by rw [E1.out, E2.out]; rw [← HRV.out, List.length_set, back1_len]; exact HO.out⟩, HL.out⟩

end Go.Proofs.YtkndpkingmemoaaGreatDoor.Gat
namespace Go.Proofs.YtkndpkingmemoaaGreatDoor.Gat
open Go.RowKit
open Lnk (bOne bAfter IOwn IIs YOwn YIs below_keep below_drew' bcell low_after low_alloc grown_of_below)
set_option linter.unusedVariables false
set_option linter.unusedSimpArgs false

set_option maxRecDepth 100000 in
set_option maxHeartbeats 8000000 in
theorem implReceive_any (w : World) (de qu wi ti qa bu le pb pc pj pt nw la : Int) (ea : Option Addr) (en ec : Nat) (ka : Option Addr) (kn kc : Nat) (tu : Int) (fa : Option Addr) (fn fc : Nat) (ra : Option Addr) (rn rc : Nat) (tk ac dr : Int) (E : List Ev) (K : List Lk) (F R : List Int) (s : ByteArray) (hE : ∀ e ∈ E, (Lit.int .i64 e.i).wf = true) (hR : ∀ x ∈ R, (Lit.int .i64 x).wf = true) (h : GIs w.heap.size w ea en ka kn fa fn ra rn E K F R) (hs : Small en kn fn rn K) (hsz : s.size ≤ 281474976710656) (hg : ErrT w) :
    Calls Tryz.prog 17 #[.agg #[.int .i64 de, .int .i64 qu, .int .i64 wi, .int .i64 ti, .int .i64 qa, .int .i64 bu, .int .i64 le, .int .i64 pb, .int .i64 pc, .int .i64 pj, .int .i64 pt, .int .i64 nw, .int .i64 la, .slice ea en ec, .slice ka kn kc, .int .i64 tu, .slice fa fn fc, .slice ra rn rc, .int .i64 tk, .int .i64 ac, .int .i64 dr], .string s] w fun e w' => GEnd2 w w' de qu wi ti qa bu le pb pc pj pt nw la tu tk (rcvN (gokB de qu wi ti qa bu le pb pc pj pt nw la en kn tu fn rn tk ac dr E K F R) s de K ac) dr (rcvE (gokB de qu wi ti qa bu le pb pc pj pt nw la en kn tu fn rn tk ac dr E K F R) s de K E) (rcvK (gokB de qu wi ti qa bu le pb pc pj pt nw la en kn tu fn rn tk ac dr E K F R) s de K) F R (rcvI (gokB de qu wi ti qa bu le pb pc pj pt nw la en kn tu fn rn tk ac dr E K F R) s de K) (rcvC (gokB de qu wi ti qa bu le pb pc pj pt nw la en kn tu fn rn tk ac dr E K F R) s de K) e := by
  obtain rfl : E.length = en := h.ev.row.hlen
  obtain rfl : K.length = kn := h.lk.hlen
  obtain rfl : F.length = fn := h.lf.hlen
  obtain rfl : R.length = rn := h.lt.hlen
  obtain ⟨gk, hgk⟩ : ∃ x, x = (gokB de qu wi ti qa bu le pb pc pj pt nw la E.length K.length tu F.length R.length tk ac dr E K F R) := ⟨_, rfl⟩
  rw [← hgk]
  have HGK := Lib.hid hgk
  obtain ⟨EQ, hEQ⟩ : ∃ x, x = rcvE gk s de K E := ⟨_, rfl⟩
  obtain ⟨KQ, hKQ⟩ : ∃ x, x = rcvK gk s de K := ⟨_, rfl⟩
  obtain ⟨NQ, hNQ⟩ : ∃ x, x = rcvN gk s de K ac := ⟨_, rfl⟩
  obtain ⟨IQ, hIQ⟩ : ∃ x, x = rcvI gk s de K := ⟨_, rfl⟩
  obtain ⟨CQ, hCQ⟩ : ∃ x, x = rcvC gk s de K := ⟨_, rfl⟩
  rw [← hEQ, ← hKQ, ← hNQ, ← hIQ, ← hCQ]
  have HEQ := Lib.hid hEQ
  have HKQ := Lib.hid hKQ
  have HNQ := Lib.hid hNQ
  have HIQ := Lib.hid hIQ
  have HCQ := Lib.hid hCQ
  clear hEQ hKQ hNQ hIQ hCQ hgk
  obtain ⟨W0, hW0⟩ : ∃ W, W = (w.alloc (.cells #[.int .i64 de, .int .i64 qu, .int .i64 wi, .int .i64 ti, .int .i64 qa, .int .i64 bu, .int .i64 le, .int .i64 pb, .int .i64 pc, .int .i64 pj, .int .i64 pt, .int .i64 nw, .int .i64 la, .slice ea E.length ec, .slice ka K.length kc, .int .i64 tu, .slice fa F.length fc, .slice ra R.length rc, .int .i64 tk, .int .i64 ac, .int .i64 dr] 32)).alloc (.cells #[.int .i64 0, .int .i64 0, .int .i64 0, .int .i64 0, .int .i64 0, .int .i64 0, .int .i64 0, .int .i64 0, .int .i64 0, .int .i64 0, .int .i64 0, .int .i64 0, .int .i64 0, .slice none 0 0, .slice none 0 0, .int .i64 0, .slice none 0 0, .slice none 0 0, .int .i64 0, .int .i64 0, .int .i64 0] 32) := ⟨_, rfl⟩
  have hb01 := bOne w (.cells #[.int .i64 de, .int .i64 qu, .int .i64 wi, .int .i64 ti, .int .i64 qa, .int .i64 bu, .int .i64 le, .int .i64 pb, .int .i64 pc, .int .i64 pj, .int .i64 pt, .int .i64 nw, .int .i64 la, .slice ea E.length ec, .slice ka K.length kc, .int .i64 tu, .slice fa F.length fc, .slice ra R.length rc, .int .i64 tk, .int .i64 ac, .int .i64 dr] 32)
  have hb02 := bOne (w.alloc (.cells #[.int .i64 de, .int .i64 qu, .int .i64 wi, .int .i64 ti, .int .i64 qa, .int .i64 bu, .int .i64 le, .int .i64 pb, .int .i64 pc, .int .i64 pj, .int .i64 pt, .int .i64 nw, .int .i64 la, .slice ea E.length ec, .slice ka K.length kc, .int .i64 tu, .slice fa F.length fc, .slice ra R.length rc, .int .i64 tk, .int .i64 ac, .int .i64 dr] 32)) (.cells #[.int .i64 0, .int .i64 0, .int .i64 0, .int .i64 0, .int .i64 0, .int .i64 0, .int .i64 0, .int .i64 0, .int .i64 0, .int .i64 0, .int .i64 0, .int .i64 0, .int .i64 0, .slice none 0 0, .slice none 0 0, .int .i64 0, .slice none 0 0, .slice none 0 0, .int .i64 0, .int .i64 0, .int .i64 0] 32)
  have HA : Hid (Box W0 w.heap.size 32 [.int .i64 de, .int .i64 qu, .int .i64 wi, .int .i64 ti, .int .i64 qa, .int .i64 bu, .int .i64 le, .int .i64 pb, .int .i64 pc, .int .i64 pj, .int .i64 pt, .int .i64 nw, .int .i64 la, .slice ea E.length ec, .slice ka K.length kc, .int .i64 tu, .slice fa F.length fc, .slice ra R.length rc, .int .i64 tk, .int .i64 ac, .int .i64 dr]) := Lib.hid (by rw [hW0]; exact (Box.new w [.int .i64 de, .int .i64 qu, .int .i64 wi, .int .i64 ti, .int .i64 qa, .int .i64 bu, .int .i64 le, .int .i64 pb, .int .i64 pc, .int .i64 pj, .int .i64 pt, .int .i64 nw, .int .i64 la, .slice ea E.length ec, .slice ka K.length kc, .int .i64 tu, .slice fa F.length fc, .slice ra R.length rc, .int .i64 tk, .int .i64 ac, .int .i64 dr] 32).below hb02)
  have HR : Hid (Box W0 (w.heap.size + 1) 32 [.int .i64 0, .int .i64 0, .int .i64 0, .int .i64 0, .int .i64 0, .int .i64 0, .int .i64 0, .int .i64 0, .int .i64 0, .int .i64 0, .int .i64 0, .int .i64 0, .int .i64 0, .slice none 0 0, .slice none 0 0, .int .i64 0, .slice none 0 0, .slice none 0 0, .int .i64 0, .int .i64 0, .int .i64 0]) := Lib.hid (by
    rw [hW0]
    have := Box.new (w.alloc (.cells #[.int .i64 de, .int .i64 qu, .int .i64 wi, .int .i64 ti, .int .i64 qa, .int .i64 bu, .int .i64 le, .int .i64 pb, .int .i64 pc, .int .i64 pj, .int .i64 pt, .int .i64 nw, .int .i64 la, .slice ea E.length ec, .slice ka K.length kc, .int .i64 tu, .slice fa F.length fc, .slice ra R.length rc, .int .i64 tk, .int .i64 ac, .int .i64 dr] 32)) [.int .i64 0, .int .i64 0, .int .i64 0, .int .i64 0, .int .i64 0, .int .i64 0, .int .i64 0, .int .i64 0, .int .i64 0, .int .i64 0, .int .i64 0, .int .i64 0, .int .i64 0, .slice none 0 0, .slice none 0 0, .int .i64 0, .slice none 0 0, .slice none 0 0, .int .i64 0, .int .i64 0, .int .i64 0] 32
    simpa using this)
  have HL : Hid (Below w.heap.size w W0) := Lib.hid (by rw [hW0]; exact hb01.trans (hb02.mono (by simp)))
  have HSZ := Lib.hid (show w.heap.size + 2 ≤ W0.heap.size by rw [hW0]; simp)
  have hz0 : 0 < w.heap.size := World.block_lt_of_cell? _ _ hg
  have HWE := Lib.hid hW0
  have HG := Lib.hid h
  have HSM := Lib.hid hs
  have HE := Lib.hid hE
  have HRW := Lib.hid hR
  have HEG := Lib.hid (show ErrT W0 from (HL.out.cell (p := ⟨0, 0, none⟩) hz0).trans hg)
  clear hW0 hb01 hb02 h hs hE hR hg
  go_enter Tryz.func17, Tryz.ntmps17
  go_upto_region 1 with fail
  rw [← HWE.out]
  clear HWE
  obtain ⟨B, hB⟩ : ∃ B, B = W0.heap.size := ⟨_, rfl⟩
  have HB1 := Lib.hid (show w.heap.size + 2 ≤ B by rw [hB]; exact HSZ.out)
  have HB0 := Lib.hid (show 0 < B by rw [hB]; have := HSZ.out; omega)
  go_wp2_with (first | (refine wpList_load_box rfl _ 32 rfl rfl HA.out _ Tryz.underlying32 sizeGate ?_) | fail)
  refine (copyGate_any _ de qu wi ti qa bu le pb pc pj pt nw la ea E.length ec ka K.length kc tu fa F.length fc ra R.length rc tk ac dr E K F R (HG.out.here HL.out) HSM.out).mono ?_
  rintro e w1 ⟨⟨ea1, ec1, ka1, kc1, fa1, fc1, ra1, rc1, vs, rfl, ho⟩, hb⟩
  rw [← hB] at ho
  have HO := Lib.hid ho
  have HBW := Lib.hid (show B ≤ w1.heap.size by rw [hB]; exact hb.size)
  replace HR := Lib.hid (HR.out.below hb)
  replace HL := Lib.hid (low_after HL.out hb)
  replace HEG := Lib.hid (HEG.out.below hb)
  clear hb ho hB HSZ HA
  obtain ⟨kb, hkb⟩ : ∃ k, k = w1.heap.size := ⟨_, rfl⟩
  go_upto_region 2 with (first | (refine wpList_store_box rfl _ _ 72 rfl rfl [.int .i64 de, .int .i64 qu, .int .i64 wi, .int .i64 ti, .int .i64 qa, .int .i64 bu, .int .i64 le, .int .i64 pb, .int .i64 pc, .int .i64 pj, .int .i64 pt, .int .i64 nw, .int .i64 la, .slice ea1 E.length ec1, .slice ka1 K.length kc1, .int .i64 tu, .slice fa1 F.length fc1, .slice ra1 R.length rc1, .int .i64 tk, .int .i64 ac, .int .i64 dr] rfl (Box.new _ [.int .i64 0, .int .i64 0, .int .i64 0, .int .i64 0, .int .i64 0, .int .i64 0, .int .i64 0, .int .i64 0, .int .i64 0, .int .i64 0, .int .i64 0, .int .i64 0, .int .i64 0, .slice none 0 0, .slice none 0 0, .int .i64 0, .slice none 0 0, .slice none 0 0, .int .i64 0, .int .i64 0, .int .i64 0] 72) sizeKeep rfl rfl ?_; intro V0 hXb hgV hlV; have HX := Lib.hid hXb; have HBV := Lib.hid (hlV w1.heap.size w1 (Nat.le_refl _) (bOne w1 _)); clear hXb hgV hlV) | fail)
  simp only [Act.put]
  rw [← hkb] at HX ⊢
  have HKB := Lib.hid (show B ≤ kb by rw [hkb]; exact HBW.out)
  clear hkb
  obtain ⟨w2, hw2⟩ : ∃ x, x = V0 := ⟨_, rfl⟩
  rw [← hw2] at HX HBV ⊢
  clear hw2
  replace HR := Lib.hid (HR.out.below HBV.out)
  replace HL := Lib.hid (low_after HL.out HBV.out)
  replace HO := Lib.hid (HO.out.below HBV.out)
  replace HEG := Lib.hid (HEG.out.below HBV.out)
  replace HBW := Lib.hid (Nat.le_trans HBW.out HBV.out.size)
  clear HBV
  go_wp2_with fail
  refine (receive_any w2 B kb de qu wi ti qa bu le pb pc pj pt nw la ea1 ec1 ka1 kc1 tu fa1 fc1 ra1 rc1 tk ac dr vs E K F R gk s HE.out HRW.out HGK.out HX.out HKB.out HO.out HBW.out HSM.out hsz).mono ?_
  rintro e w3 ⟨rfl, hx, ⟨vs', ho⟩, hl⟩
  rw [← HEQ.out, ← HKQ.out, ← HNQ.out] at hx
  rw [← HEQ.out, ← HKQ.out] at ho
  rw [← HIQ.out, ← HCQ.out]
  replace HEG := Lib.hid (show ErrT w3 from (hl.cell (p := ⟨0, 0, none⟩) (by have := HB0.out; exact this)).trans HEG.out)
  replace HR := Lib.hid (HR.out.low hl (by have := HB1.out; omega))
  replace HL := Lib.hid (HL.out.trans (hl.mono (by have := HB1.out; omega)))
  replace HBW := Lib.hid (Nat.le_trans HBW.out hl.size)
  replace HX := Lib.hid hx
  replace HO := Lib.hid ho
  clear hx ho hl
  go_upto_region 3 with fail
  have hb := below_drew' (Below.refl w3.heap.size w3)
  replace HR := Lib.hid (HR.out.below hb)
  replace HX := Lib.hid (HX.out.below hb)
  replace HO := Lib.hid (HO.out.below hb)
  replace HL := Lib.hid (low_after HL.out hb)
  replace HBW := Lib.hid (Nat.le_trans HBW.out hb.size)
  replace HEG := Lib.hid (HEG.out.below hb)
  clear hb
  refine wp_region_held_drew (S := fun w' => Box w' kb 72 [.int .i64 de, .int .i64 qu, .int .i64 wi, .int .i64 ti, .int .i64 qa, .int .i64 bu, .int .i64 le, .int .i64 pb, .int .i64 pc, .int .i64 pj, .int .i64 pt, .int .i64 nw, .int .i64 la, .slice ea1 EQ.length ec1, .slice ka1 KQ.length kc1, .int .i64 tu, .slice fa1 F.length fc1, .slice ra1 R.length rc1, .int .i64 tk, .int .i64 NQ, .int .i64 dr]) (by kernel_rfl) HX.out (fun hHeld => ?_)
  obtain ⟨wd, hwd⟩ : ∃ x, x = w3.drew := ⟨_, rfl⟩
  rw [← hwd] at HR HX HO HL HBW HEG hHeld ⊢
  clear hwd
  refine wpAnyH_take (i := 0) (oi := { dst := some _, op := _, type := _, pos := _, after := _, guard := _ }) (v := ?_) rfl (by kernel_rfl) (by kernel_rfl) (by kernel_rfl) (fun _ _ _ h => h) ?_ (by with_reducible assumption) ?_
  rotate_left 1
  focus (refine Or.inl ⟨by rfl, ?_⟩; intro wq hSw; go_simp; try with_reducible rfl)
  try simp only [Act.put, List.setIfInBounds_toArray, List.set_cons_zero, List.set_cons_succ]
  refine wpAnyH_take (i := 1) (oi := { dst := some _, op := _, type := _, pos := _, after := _, guard := _ }) (v := ?_) rfl (by kernel_rfl) (by kernel_rfl) (by kernel_rfl) (fun _ _ _ h => h) ?_ (by with_reducible assumption) ?_
  rotate_left 1
  focus (refine Or.inl ⟨by rfl, ?_⟩; intro wq hSw; refine exec_load_box ?_ 32 ?_ ?_ hSw _ Tryz.underlying32 sizeGate; rotate_left 1; rfl; rfl)
  try simp only [Act.put, List.setIfInBounds_toArray, List.set_cons_zero, List.set_cons_succ]
  refine wpAnyH_take (i := 2) (oi := { dst := some _, op := _, type := _, pos := _, after := _, guard := _ }) (v := ?_) rfl (by kernel_rfl) (by kernel_rfl) (by kernel_rfl) (fun _ _ _ h => h) ?_ (by with_reducible assumption) ?_
  rotate_left 1
  focus (refine Or.inl ⟨by rfl, ?_⟩; intro wq hSw; go_simp; try with_reducible rfl)
  try simp only [Act.put, List.setIfInBounds_toArray, List.set_cons_zero, List.set_cons_succ]
  refine wpAnyH_take (i := 3) (oi := { dst := some _, op := _, type := _, pos := _, after := _, guard := _ }) (v := ?_) rfl (by kernel_rfl) (by kernel_rfl) (by kernel_rfl) (fun _ _ _ h => h) ?_ (by with_reducible assumption) ?_
  rotate_left 1
  focus (refine Or.inl ⟨by rfl, ?_⟩; intro wq hSw; go_simp; try with_reducible rfl)
  try simp only [Act.put, List.setIfInBounds_toArray, List.set_cons_zero, List.set_cons_succ]
  refine wpAnyH_ready (rs := [4]) (by kernel_rfl) (by simp) ?_
  refine AllReadyH.cons rfl (fun KC hKC => ?_) AllReadyH.nil
  go_simp
  refine (codeOf_any _ CQ HEG.out).mono ?_
  rintro e w4 ⟨rfl, hb⟩
  replace HR := Lib.hid (HR.out.below hb)
  replace HX := Lib.hid (HX.out.below hb)
  replace HO := Lib.hid (HO.out.below hb)
  replace HL := Lib.hid (low_after HL.out hb)
  replace HBW := Lib.hid (Nat.le_trans HBW.out hb.size)
  replace HEG := Lib.hid (HEG.out.below hb)
  clear hb hHeld
  dsimp only
  refine hKC.out _ _ (HX.out) (fun hHeld => ?_)
  clear hKC
  try simp only [Act.put, List.setIfInBounds_toArray, List.set_cons_zero, List.set_cons_succ]
  refine wpAnyH_ready (rs := [5]) (by kernel_rfl) (by simp) ?_
  refine AllReadyH.cons rfl (fun KS hKS => ?_) AllReadyH.nil
  refine step_store_box rfl _ _ 32 rfl rfl [.int .i64 de, .int .i64 qu, .int .i64 wi, .int .i64 ti, .int .i64 qa, .int .i64 bu, .int .i64 le, .int .i64 pb, .int .i64 pc, .int .i64 pj, .int .i64 pt, .int .i64 nw, .int .i64 la, .slice ea1 EQ.length ec1, .slice ka1 KQ.length kc1, .int .i64 tu, .slice fa1 F.length fc1, .slice ra1 R.length rc1, .int .i64 tk, .int .i64 NQ, .int .i64 dr] rfl HR.out sizeGate rfl rfl ?_
  intro V hXb hgV hlV
  replace HX := Lib.hid (HX.out.grown hgV (fun e => by injection e; have := HB1.out; have := HKB.out; omega))
  clear hHeld
  refine hKS.out _ _ (HX.out) (fun hHeld => ?_)
  clear hKS
  try simp only [Act.put, List.setIfInBounds_toArray, List.set_cons_zero, List.set_cons_succ]
  refine wpAnyH_take (i := 6) (oi := { dst := some _, op := _, type := _, pos := _, after := _, guard := _ }) (v := ?_) rfl (by kernel_rfl) (by kernel_rfl) (by kernel_rfl) (fun _ _ _ h => h) ?_ (by with_reducible assumption) ?_
  rotate_left 1
  focus (refine Or.inl ⟨by rfl, ?_⟩; intro wq hSw; go_simp; try with_reducible rfl)
  try simp only [Act.put, List.setIfInBounds_toArray, List.set_cons_zero, List.set_cons_succ]
  refine wpAnyH_take (i := 7) (oi := { dst := some _, op := _, type := _, pos := _, after := _, guard := _ }) (v := ?_) rfl (by kernel_rfl) (by kernel_rfl) (by kernel_rfl) (fun _ _ _ h => h) ?_ (by with_reducible assumption) ?_
  rotate_left 1
  focus (refine Or.inl ⟨by rfl, ?_⟩; intro wq hSw; go_simp; try with_reducible rfl)
  try simp only [Act.put, List.setIfInBounds_toArray, List.set_cons_zero, List.set_cons_succ]
  refine wpAnyH_done (by kernel_rfl) ?_ _
  clear hHeld
  go_wp2_with fail
  exact bodyPost_ret (v := .tuple #[.agg #[.int .i64 de, .int .i64 qu, .int .i64 wi, .int .i64 ti, .int .i64 qa, .int .i64 bu, .int .i64 le, .int .i64 pb, .int .i64 pc, .int .i64 pj, .int .i64 pt, .int .i64 nw, .int .i64 la, .slice ea1 EQ.length ec1, .slice ka1 KQ.length kc1, .int .i64 tu, .slice fa1 F.length fc1, .slice ra1 R.length rc1, .int .i64 tk, .int .i64 NQ, .int .i64 dr], .int .i64 IQ, .int .i64 CQ]) (results_box3 _ Tryz.results17 rfl rfl rfl hXb _ Tryz.underlying32 sizeGate) rfl ⟨⟨ea1, ec1, ka1, kc1, fa1, fc1, ra1, rc1, vs', rfl, (HO.out.low hgV (by have := HB1.out; omega)).base (by have := HB1.out; omega)⟩, hlV w.heap.size w (by omega) HL.out⟩

end Go.Proofs.YtkndpkingmemoaaGreatDoor.Gat
