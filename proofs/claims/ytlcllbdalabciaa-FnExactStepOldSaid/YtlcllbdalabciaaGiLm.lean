/-
  ticker.old.
-/
import Derived.Test.YtlcllbdalabciaaGiJm
import Derived.Test.YtlcllbdalabciaaGcKm
namespace Go.Proofs.Ytlcllbdalabciaa.Gat
open Go.RowKit
open Lnk (bOne bAfter IOwn IIs YOwn YIs below_keep below_drew' bcell low_after low_alloc grown_of_below fgtL)
set_option linter.unusedVariables false
set_option linter.unusedSimpArgs false

theorem body_set {l : List Ev} {k : Nat} {e : Ev} (h : ∀ x ∈ l, x.b.size ≤ maxLen) (he : e.b.size ≤ maxLen) : ∀ x ∈ l.set k e, x.b.size ≤ maxLen := by
  intro x hx
  rcases List.mem_or_eq_of_mem_set hx with hx | rfl
  · exact h x hx
  · exact he

set_option maxRecDepth 100000 in
set_option maxHeartbeats 8000000 in
theorem tkOld_any (w : World) (B kb : Nat) (de qu wi ti qa bu le pb pc pj pt nw la : Int) (ea : Option Addr) (ec : Nat) (ka : Option Addr) (kc : Nat) (tu : Int) (fa : Option Addr) (fc : Nat) (ra : Option Addr) (rc : Nat) (tk ac dr dw : Int) (vs : List Value) (E : List Ev) (K : List Lk) (F R : List Int) (hx : Box w kb 76 ([.int .i64 de, .int .i64 qu, .int .i64 wi, .int .i64 ti, .int .i64 qa, .int .i64 bu, .int .i64 le, .int .i64 pb, .int .i64 pc, .int .i64 pj, .int .i64 pt, .int .i64 nw, .int .i64 la, .slice ea E.length ec, .slice ka K.length kc, .int .i64 tu, .slice fa F.length fc, .slice ra R.length rc, .int .i64 tk, .int .i64 ac, .int .i64 dr] ++ [.int .i64 dw, .slice none 0 0])) (h : GOwn B w (.slice ea E.length ec) (.slice ka K.length kc) (.slice fa F.length fc) (.slice ra R.length rc) vs E K F R) (hB : B ≤ w.heap.size) (hs : Small E.length K.length F.length R.length K) (hkd : (K.length : Int) = de) (hde : de ≤ 1000) (hev : ∀ k, (hk : k < E.length) → Evt.Sml E[k].a E[k].t ∧ 1 ≤ E[k].d ∧ E[k].d ≤ de) :
    Calls Try.prog 61 #[.pointer (some ⟨kb, 0, none⟩)] w fun e w' => e = .returned (.tuple #[]) ∧ Box w' kb 76 ([.int .i64 de, .int .i64 qu, .int .i64 wi, .int .i64 ti, .int .i64 qa, .int .i64 bu, .int .i64 le, .int .i64 pb, .int .i64 pc, .int .i64 pj, .int .i64 pt, .int .i64 nw, .int .i64 la, .slice ea E.length ec, .slice ka K.length kc, .int .i64 tu, .slice fa F.length fc, .slice ra R.length rc, .int .i64 tk, .int .i64 ac, .int .i64 dr] ++ [.int .i64 dw, .slice none 0 0]) ∧ (∃ vs', GOwn B w' (.slice ea E.length ec) (.slice ka K.length kc) (.slice fa F.length fc) (.slice ra R.length rc) vs' (E.map (oldE nw)) (oldKs nw K E E.length) F R) ∧ Below B w w' := by
  have HX := Lib.hid hx
  have HO := Lib.hid h
  have HBW := Lib.hid hB
  have HSM := Lib.hid hs
  have HEV := Lib.hid hev
  clear hx h hs hev
  have c13 := HX.out.cell 13 _ rfl
  go_enter Try.func61, Try.ntmps61
  go_wp2_with fail
  clear c13
  go_loopw [12] (fun i wr => ∃ (j : Nat) (EJ : List Ev) (KJ : List Lk) (vs : List Value), j ≤ E.length ∧ i = .int .i64 j ∧ Hid (EJ = oldEs nw E j) ∧ Hid (KJ = oldKs nw K E j) ∧ Hid (Box wr kb 76 ([.int .i64 de, .int .i64 qu, .int .i64 wi, .int .i64 ti, .int .i64 qa, .int .i64 bu, .int .i64 le, .int .i64 pb, .int .i64 pc, .int .i64 pj, .int .i64 pt, .int .i64 nw, .int .i64 la, .slice ea E.length ec, .slice ka K.length kc, .int .i64 tu, .slice fa F.length fc, .slice ra R.length rc, .int .i64 tk, .int .i64 ac, .int .i64 dr] ++ [.int .i64 dw, .slice none 0 0])) ∧ Hid (GOwn B wr (.slice ea E.length ec) (.slice ka K.length kc) (.slice fa F.length fc) (.slice ra R.length rc) vs EJ KJ F R) ∧ Hid (Below B w wr) ∧ Hid (B ≤ wr.heap.size)) (fun i _ => E.length - (intOf i).toNat)
  case atStart => exact ⟨0, E, K, vs, by omega, rfl, Lib.hid (oldEs_zero nw E).symm, Lib.hid (by unfold oldKs; rfl), HX, HO, Lib.hid (Below.refl _ _), Lib.hid hB⟩
  case round =>
    obtain ⟨j, EJ, KJ, vs, hj, rfl, HEJ, HKJ, HX, HO, HL, HBW⟩ := hrel
    have HLE := Lib.hid (show EJ.length = E.length by rw [HEJ.out, oldEs_len])
    have HLK := Lib.hid (show KJ.length = K.length by rw [HKJ.out, oldKs_len])
    by_cases hlt : (j : Int) < (E.length : Int)
    · have hen : E.length ≤ 1048576 := HSM.out.1
      have hjl : j < E.length := by omega
      have hjm : j < EJ.length := by have := HLE.out; omega
      have hev : ROwn evS B wr 81 (.slice ea E.length ec) EJ := HO.out.evO
      obtain ⟨g, rfl, hg2⟩ := own_some hev (by omega)
      have hg1 : B ≤ g := (World.ownsRow.lt hev g rfl).1
      obtain ⟨i, d, c, bd, at_, t, r, n, s, hej⟩ : ∃ i d c bd at_ t r n s, E[j] = ⟨i, d, c, bd, at_, t, r, n, s⟩ := ⟨_, _, _, _, _, _, _, _, _, rfl⟩
      have hm : EJ[j] = ⟨i, d, c, bd, at_, t, r, n, s⟩ := (List.getElem?_eq_some_iff.1 (by rw [HEJ.out, oldEs_atq nw E j hjl, hej])).2
      have hevj := HEV.out j hjl
      rw [hej] at hevj
      have HSML := Lib.hid hevj.1
      have hd1 : 1 ≤ d := hevj.2.1
      have hd2 : d ≤ de := hevj.2.2
      have hlk0 : ROwn lrS B wr 56 (.slice ka K.length kc) (rawOf KJ vs) := HO.out.lkO
      obtain ⟨gk, rfl, hgk2⟩ := own_some hlk0 (by rw [rawOf_len HO.out.len]; have := HLK.out; omega)
      have hgk1 : B ≤ gk := (World.ownsRow.lt hlk0 gk rfl).1
      obtain ⟨c0, c1, c2, c3, c4, c5, c6, c7, c8⟩ := eown_cellx hev j hjm hm
      have HEM := Lib.hid hej
      have HMM := Lib.hid hm
      have HJM := Lib.hid hjm
      clear hej hm hevj hlk0
      go_upto_region 3 with fail
      clear c0 c1 c2 c3 c4 c5 c6 c7 c8
      have hb := bOne wr (.cells #[.int .i64 i, .int .i64 d, .int .i64 c, .string bd, .int .i64 at_, .int .i64 t, .int .i64 r, .int .i64 n, .int .i64 s] 81)
      have HC := Lib.hid (Box.new wr [.int .i64 i, .int .i64 d, .int .i64 c, .string bd, .int .i64 at_, .int .i64 t, .int .i64 r, .int .i64 n, .int .i64 s] 81)

      replace HX := Lib.hid (HX.out.below hb)
      replace HO := Lib.hid (HO.out.below hb)
      replace HL := Lib.hid (HL.out.trans (hb.mono HBW.out))
      replace HBW := Lib.hid (Nat.le_trans HBW.out hb.size)
      clear hb
      obtain ⟨wk, hwk⟩ : ∃ V, V = wr.alloc (.cells #[.int .i64 i, .int .i64 d, .int .i64 c, .string bd, .int .i64 at_, .int .i64 t, .int .i64 r, .int .i64 n, .int .i64 s] 81) := ⟨_, rfl⟩
      obtain ⟨kt, hkt⟩ : ∃ k, k = wr.heap.size := ⟨_, rfl⟩
      have HTG := Lib.hid (show g < kt by rw [hkt]; exact hg2)
      have HTK := Lib.hid (show gk < kt by rw [hkt]; exact hgk2)
      rw [← hwk] at HX HO HL HBW HC ⊢
      rw [← hkt] at HC ⊢
      clear hwk hkt hg2 hev hgk2
      have hb := below_drew' (Below.refl wk.heap.size wk)
      replace HX := Lib.hid (HX.out.below hb)
      replace HO := Lib.hid (HO.out.below hb)
      replace HL := Lib.hid (HL.out.trans (hb.mono HBW.out))
      replace HBW := Lib.hid (Nat.le_trans HBW.out hb.size)
      replace HC := Lib.hid (HC.out.below hb)
      clear hb
      refine wp_region_held_drew (S := fun w' => Box w' kt 81 [.int .i64 i, .int .i64 d, .int .i64 c, .string bd, .int .i64 at_, .int .i64 t, .int .i64 r, .int .i64 n, .int .i64 s] ∧ w'.cell? ⟨kb, 11, none⟩ = some (.int .i64 nw)) (by kernel_rfl) ⟨HC.out, HX.out.cell 11 _ rfl⟩ (fun hHeld => ?_)
      obtain ⟨wd, hwd⟩ : ∃ x, x = wk.drew := ⟨_, rfl⟩
      rw [← hwd] at HX HO HL HBW HC hHeld ⊢
      clear hwd
      refine wpAnyH_take (i := 0) (oi := { dst := some _, op := _, type := _, pos := _, after := _, guard := _ }) (v := ?_) rfl (by kernel_rfl) (by kernel_rfl) (by kernel_rfl) (fun _ _ _ h => h) ?_ (by with_reducible assumption) ?_
      rotate_left 1
      focus (refine Or.inl ⟨by rfl, ?_⟩; intro wq hSw; refine exec_load_box ?_ 81 ?_ ?_ hSw.1 _ Try.underlying81 sizeEvB; rotate_left 1; rfl; rfl)
      try simp only [Act.put, List.setIfInBounds_toArray, List.set_cons_zero, List.set_cons_succ]
      refine wpAnyH_take (i := 1) (oi := { dst := some _, op := _, type := _, pos := _, after := _, guard := _ }) (v := ?_) rfl (by kernel_rfl) (by kernel_rfl) (by kernel_rfl) (fun _ _ _ h => h) ?_ (by with_reducible assumption) ?_
      rotate_left 1
      focus (refine Or.inl ⟨by rfl, ?_⟩; intro wq hSw; go_simp; try with_reducible rfl)
      try simp only [Act.put, List.setIfInBounds_toArray, List.set_cons_zero, List.set_cons_succ]
      refine wpAnyH_take (i := 2) (oi := { dst := some _, op := _, type := _, pos := _, after := _, guard := _ }) (v := ?_) rfl (by kernel_rfl) (by kernel_rfl) (by kernel_rfl) (fun _ _ _ h => h) ?_ (by with_reducible assumption) ?_
      rotate_left 1
      focus (refine Or.inl ⟨by rfl, ?_⟩; intro wq hSw; go_simp; try with_reducible rfl)
      try simp only [Act.put, List.setIfInBounds_toArray, List.set_cons_zero, List.set_cons_succ]
      refine wpAnyH_take (i := 3) (oi := { dst := some _, op := _, type := _, pos := _, after := _, guard := _ }) (v := ?_) rfl (by kernel_rfl) (by kernel_rfl) (by kernel_rfl) (fun _ _ _ h => h) ?_ (by with_reducible assumption) ?_
      rotate_left 1
      focus (refine Or.inl ⟨by rfl, ?_⟩; intro wq hSw; go_simp; try with_reducible rfl)
      try simp only [Act.put, List.setIfInBounds_toArray, List.set_cons_zero, List.set_cons_succ]
      refine wpAnyH_take (i := 4) (oi := { dst := some _, op := _, type := _, pos := _, after := _, guard := _ }) (v := ?_) rfl (by kernel_rfl) (by kernel_rfl) (by kernel_rfl) (fun _ _ _ h => h) ?_ (by with_reducible assumption) ?_
      rotate_left 1
      focus (refine Or.inl ⟨by rfl, ?_⟩; intro wq hSw; go_simp; try with_reducible rfl)
      try simp only [Act.put, List.setIfInBounds_toArray, List.set_cons_zero, List.set_cons_succ]
      refine wpAnyH_take (i := 5) (oi := { dst := some _, op := _, type := _, pos := _, after := _, guard := _ }) (v := ?_) rfl (by kernel_rfl) (by kernel_rfl) (by kernel_rfl) (fun _ _ _ h => h) ?_ (by with_reducible assumption) ?_
      rotate_left 1
      focus (refine Or.inl ⟨by rfl, ?_⟩; intro wq hSw; go_simp; try with_reducible rfl)
      try simp only [Act.put, List.setIfInBounds_toArray, List.set_cons_zero, List.set_cons_succ]
      refine wpAnyH_take (i := 6) (oi := { dst := some _, op := _, type := _, pos := _, after := _, guard := _ }) (v := ?_) rfl (by kernel_rfl) (by kernel_rfl) (by kernel_rfl) (fun _ _ _ h => h) ?_ (by with_reducible assumption) ?_
      rotate_left 1
      focus (refine Or.inl ⟨by rfl, ?_⟩; intro wq hSw; have q0 := hSw.2; go_simp; try with_reducible rfl)
      try simp only [Act.put, List.setIfInBounds_toArray, List.set_cons_zero, List.set_cons_succ]
      refine wpAnyH_ready (rs := [7]) (by kernel_rfl) (by simp) ?_
      refine AllReadyH.cons rfl (fun KC hKC => ?_) AllReadyH.nil
      go_simp
      refine (Evt.old_any i d c bd at_ t r n s nw _ HSML.out).mono ?_
      rintro e w1 ⟨rfl, hb⟩
      replace HX := Lib.hid (HX.out.below hb)
      replace HO := Lib.hid (HO.out.below hb)
      replace HL := Lib.hid (HL.out.trans (hb.mono HBW.out))
      replace HBW := Lib.hid (Nat.le_trans HBW.out hb.size)
      replace HC := Lib.hid (HC.out.below hb)
      clear hb hHeld
      dsimp only
      refine hKC.out _ _ (⟨HC.out, HX.out.cell 11 _ rfl⟩) (fun hHeld => ?_)
      clear hKC
      try simp only [Act.put, List.setIfInBounds_toArray, List.set_cons_zero, List.set_cons_succ]
      refine wpAnyH_done (by kernel_rfl) ?_ _
      clear hHeld
      obtain ⟨x, hx⟩ : ∃ x, x = Evt.oldB at_ t s nw := ⟨_, rfl⟩
      rw [← hx]
      have HOL := Lib.hid (show isOld nw ⟨i, d, c, bd, at_, t, r, n, s⟩ = x from hx.symm)
      clear hx
      cases x with
      | false =>
        have HE2 := Lib.hid (show oldEs nw E (j + 1) = EJ by rw [← oldEs_step nw E j hjl HEM.out, HEJ.out]; unfold oldE; rw [HOL.out]; exact set_same' _ _ _ (by rw [List.getElem?_eq_getElem (by rw [oldEs_len]; exact hjl), oldEs_at nw E j hjl, HEM.out]; rfl))
        have HK2 := Lib.hid (show oldKs nw K E (j + 1) = KJ by rw [oldKs_step nw K E j hjl HEM.out, HKJ.out]; unfold oldK; rw [HOL.out]; rfl)
        go_wp2_with fail
        go_roundw
        case rel => exact ⟨j + 1, EJ, KJ, vs, by omega, by go_num, Lib.hid HE2.out.symm, Lib.hid HK2.out.symm, HX, HO, HL, HBW⟩
        case measure => simp [intOf]; omega
      | true =>
        obtain ⟨m, hmd⟩ : ∃ m : Nat, d = (m : Int) + 1 := ⟨(d - 1).toNat, by omega⟩
        have hwm : IntKind.i64.wrap (d - 1) = (m : Int) := by rw [show d - 1 = (m : Int) by omega]; exact IntWalk.i64_in _ (by omega)
        have hmk : (m : Int) < (K.length : Int) := by omega
        have hmk2 : (m : Int) < de := by omega
        have hmj : m < KJ.length := by have := HLK.out; omega
        have HMD := Lib.hid hmd
        have HMJ := Lib.hid hmj
        have hev : ROwn evS B w1 81 (.slice (some ⟨g, 0, none⟩) E.length ec) EJ := HO.out.evO
        have hcx := eown_cellx hev j HJM.out HMM.out
        have z8 := hcx.c8
        have f8 := hev.frozenAt (j * 9 + 8)
        have o13 := HX.out.cell 13 _ rfl
        have hst := eown_statusx hev j HJM.out HMM.out 2
        have HST := Lib.hid hst
        clear hcx hst hmd hmj hev
        go_upto_region 5 with fail
        clear z8 f8 o13
        obtain ⟨w4, hw4⟩ : ∃ V, V = w1.setCell ⟨g, j * 9 + 8, none⟩ (.int .i64 2) := ⟨_, rfl⟩
        rw [← hw4] at HST ⊢
        obtain ⟨ho4, hg4⟩ := HST.out
        have hat : (evR (.slice (some ⟨g, 0, none⟩) E.length ec) EJ).At B w1 := HO.out.rows.at_ _ (by simp [gRows])
        have hne3 : some kt ≠ some g := fun e => by injection e; have := HTG.out; omega
        replace HX := Lib.hid (HX.out.grown hg4 (hat.ne_box rfl HX.out rfl))
        replace HC := Lib.hid (HC.out.grown hg4 hne3)
        replace HL := Lib.hid (HL.out.grown hg4 HBW.out (fun q e => by cases e; exact hg1))
        replace HBW := Lib.hid (Nat.le_trans HBW.out hg4.size)
        replace HO := Lib.hid (HO.out.setEv hg4 ho4 (.inl rfl) (body_set HO.out.body (by have h1 := HO.out.body _ (List.getElem_mem HJM.out); rw [HMM.out] at h1; exact h1)))
        clear HST hw4 ho4 hg4 hat hne3
        obtain ⟨E4, hE4⟩ : ∃ X, X = EJ.set j (withS ⟨i, d, c, bd, at_, t, r, n, s⟩ 2) := ⟨_, rfl⟩
        rw [← hE4] at HO
        have HE7 := Lib.hid (show oldEs nw E (j + 1) = E4 by rw [← oldEs_step nw E j hjl HEM.out, hE4]; unfold oldE; rw [HOL.out, if_pos rfl, HEJ.out])
        clear hE4
        have hb := below_drew' (Below.refl w4.heap.size w4)
        replace HX := Lib.hid (HX.out.below hb)
        replace HO := Lib.hid (HO.out.below hb)
        replace HL := Lib.hid (HL.out.trans (hb.mono HBW.out))
        replace HBW := Lib.hid (Nat.le_trans HBW.out hb.size)
        replace HC := Lib.hid (HC.out.below hb)
        clear hb
        refine wp_region_held_drew (S := fun w' => w'.cell? ⟨kb, 14, none⟩ = some (.slice (some ⟨gk, 0, none⟩) K.length kc) ∧ w'.cell? ⟨kt, 1, none⟩ = some (.int .i64 d)) (by kernel_rfl) ⟨HX.out.cell 14 _ rfl, HC.out.cell 1 _ rfl⟩ (fun hHeld => ?_)
        obtain ⟨w5, hw5⟩ : ∃ x, x = w4.drew := ⟨_, rfl⟩
        rw [← hw5] at HX HO HL HBW HC hHeld ⊢
        clear hw5
        refine wpAnyH_take (i := 0) (oi := { dst := some _, op := _, type := _, pos := _, after := _, guard := _ }) (v := ?_) rfl (by kernel_rfl) (by kernel_rfl) (by kernel_rfl) (fun _ _ _ h => h) ?_ (by with_reducible assumption) ?_
        rotate_left 1
        focus (refine Or.inl ⟨by rfl, ?_⟩; intro wq hSw; have q0 := hSw.1; have q1 := hSw.2; go_simp; try with_reducible rfl)
        try simp only [Act.put, List.setIfInBounds_toArray, List.set_cons_zero, List.set_cons_succ]
        refine wpAnyH_take (i := 1) (oi := { dst := some _, op := _, type := _, pos := _, after := _, guard := _ }) (v := ?_) rfl (by kernel_rfl) (by kernel_rfl) (by kernel_rfl) (fun _ _ _ h => h) ?_ (by with_reducible assumption) ?_
        rotate_left 1
        focus (refine Or.inl ⟨by rfl, ?_⟩; intro wq hSw; have q0 := hSw.1; have q1 := hSw.2; go_simp; try with_reducible rfl)
        try simp only [Act.put, List.setIfInBounds_toArray, List.set_cons_zero, List.set_cons_succ]
        refine wpAnyH_take (i := 2) (oi := { dst := some _, op := _, type := _, pos := _, after := _, guard := _ }) (v := ?_) rfl (by kernel_rfl) (by kernel_rfl) (by kernel_rfl) (fun _ _ _ h => h) ?_ (by with_reducible assumption) ?_
        rotate_left 1
        focus (refine Or.inl ⟨by rfl, ?_⟩; intro wq hSw; have q0 := hSw.1; have q1 := hSw.2; go_simp; try with_reducible rfl)
        try simp only [Act.put, List.setIfInBounds_toArray, List.set_cons_zero, List.set_cons_succ]
        refine wpAnyH_take (i := 3) (oi := { dst := some _, op := _, type := _, pos := _, after := _, guard := _ }) (v := ?_) rfl (by kernel_rfl) (by kernel_rfl) (by kernel_rfl) (fun _ _ _ h => h) ?_ (by with_reducible assumption) ?_
        rotate_left 1
        focus (refine Or.inl ⟨by rfl, ?_⟩; intro wq hSw; have q0 := hSw.1; have q1 := hSw.2; go_simp; try with_reducible rfl)
        try simp only [Act.put, List.setIfInBounds_toArray, List.set_cons_zero, List.set_cons_succ]
        refine wpAnyH_take (i := 4) (oi := { dst := some _, op := _, type := _, pos := _, after := _, guard := _ }) (v := ?_) rfl (by kernel_rfl) (by kernel_rfl) (by kernel_rfl) (fun _ _ _ h => h) ?_ (by with_reducible assumption) ?_
        rotate_left 1
        focus (refine Or.inl ⟨by rfl, ?_⟩; intro wq hSw; have q0 := hSw.1; have q1 := hSw.2; go_simp; try with_reducible rfl)
        try simp only [Act.put, List.setIfInBounds_toArray, List.set_cons_zero, List.set_cons_succ]
        refine wpAnyH_take (i := 5) (oi := { dst := some _, op := _, type := _, pos := _, after := _, guard := _ }) (v := ?_) rfl (by kernel_rfl) (by kernel_rfl) (by kernel_rfl) (fun _ _ _ h => h) ?_ (by with_reducible assumption) ?_
        rotate_left 1
        focus (refine Or.inl ⟨by rfl, ?_⟩; intro wq hSw; have q0 := hSw.1; have q1 := hSw.2; go_simp; try with_reducible rfl)
        try simp only [Act.put, List.setIfInBounds_toArray, List.set_cons_zero, List.set_cons_succ]
        refine wpAnyH_take (i := 6) (oi := { dst := some _, op := _, type := _, pos := _, after := _, guard := _ }) (v := ?_) rfl (by kernel_rfl) (by kernel_rfl) (by kernel_rfl) (fun _ _ _ h => h) ?_ (by with_reducible assumption) ?_
        rotate_left 1
        focus (refine Or.inl ⟨by rfl, ?_⟩; intro wq hSw; have q0 := hSw.1; have q1 := hSw.2; go_simp; try with_reducible rfl)
        try simp only [Act.put, List.setIfInBounds_toArray, List.set_cons_zero, List.set_cons_succ]
        refine wpAnyH_take (i := 7) (oi := { dst := some _, op := _, type := _, pos := _, after := _, guard := _ }) (v := ?_) rfl (by kernel_rfl) (by kernel_rfl) (by kernel_rfl) (fun _ _ _ h => h) ?_ (by with_reducible assumption) ?_
        rotate_left 1
        focus (refine Or.inl ⟨by rfl, ?_⟩; intro wq hSw; have q0 := hSw.1; have q1 := hSw.2; go_simp; try with_reducible rfl)
        try simp only [Act.put, List.setIfInBounds_toArray, List.set_cons_zero, List.set_cons_succ]
        refine wpAnyH_take (i := 8) (oi := { dst := some _, op := _, type := _, pos := _, after := _, guard := _ }) (v := ?_) rfl (by kernel_rfl) (by kernel_rfl) (by kernel_rfl) (fun _ _ _ h => h) ?_ (by with_reducible assumption) ?_
        rotate_left 1
        focus (refine Or.inl ⟨by rfl, ?_⟩; intro wq hSw; have q0 := hSw.1; have q1 := hSw.2; go_simp; try with_reducible rfl)
        try simp only [Act.put, List.setIfInBounds_toArray, List.set_cons_zero, List.set_cons_succ]
        refine wpAnyH_take (i := 9) (oi := { dst := some _, op := _, type := _, pos := _, after := _, guard := _ }) (v := ?_) rfl (by kernel_rfl) (by kernel_rfl) (by kernel_rfl) (fun _ _ _ h => h) ?_ (by with_reducible assumption) ?_
        rotate_left 1
        focus (refine Or.inl ⟨by rfl, ?_⟩; intro wq hSw; have q0 := hSw.1; have q1 := hSw.2; go_simp; try with_reducible rfl)
        try simp only [Act.put, List.setIfInBounds_toArray, List.set_cons_zero, List.set_cons_succ]
        refine wpAnyH_take (i := 10) (oi := { dst := some _, op := _, type := _, pos := _, after := _, guard := _ }) (v := ?_) rfl (by kernel_rfl) (by kernel_rfl) (by kernel_rfl) (fun _ _ _ h => h) ?_ (by with_reducible assumption) ?_
        rotate_left 1
        focus (refine Or.inl ⟨by rfl, ?_⟩; intro wq hSw; have q0 := hSw.1; have q1 := hSw.2; go_simp; try with_reducible rfl)
        try simp only [Act.put, List.setIfInBounds_toArray, List.set_cons_zero, List.set_cons_succ]
        refine wpAnyH_done (by kernel_rfl) ?_ _
        clear hHeld
        go_upto_region 6 with fail
        obtain ⟨kk, hkk⟩ : ∃ k, k = KJ[m]'HMJ.out := ⟨_, rfl⟩
        have hmr : m < (rawOf KJ vs).length := by rw [rawOf_len HO.out.len]; exact HMJ.out
        have hmv : m < vs.length := by rw [HO.out.len]; exact HMJ.out
        have hfy := HO.out.fly m HMJ.out hmv
        obtain ⟨fa0, fc0, hvm⟩ := hfy.shape
        rw [hvm, ← hkk] at hfy
        obtain ⟨fl, hfl⟩ : ∃ n, n = kk.l.length := ⟨_, rfl⟩
        rw [← hkk, ← hfl] at hvm
        rw [← hfl] at hfy
        have hlk : ROwn lrS B w5 56 (.slice (some ⟨gk, 0, none⟩) K.length kc) (rawOf KJ vs) := HO.out.lkO
        have HC4 := Lib.hid (lown_cellx hlk m hmr (show (rawOf KJ vs)[m]'hmr = ⟨kk.up, kk.ep, kk.sq, .slice fa0 fl fc0⟩ from lr_of (rawOf_get m hmr HMJ.out hmv) hkk.symm hvm))
        have HY := Lib.hid (show YIs w5.heap.size w5 fa0 fl kk.l from hfy.isN)
        have HYF := Lib.hid (show kk.l.length ≤ 1048576 from by have h1 := oldKs_small nw K E j HSM.out.2.2.1; rw [← HKJ.out] at h1; rw [hkk]; exact h1 _ (List.getElem_mem HMJ.out))
        have HKK := Lib.hid hkk
        clear hkk hmr hmv hfy hvm hfl hlk
        have hb := below_drew' (Below.refl w5.heap.size w5)
        replace HX := Lib.hid (HX.out.below hb)
        replace HO := Lib.hid (HO.out.below hb)
        replace HL := Lib.hid (HL.out.trans (hb.mono HBW.out))
        replace HBW := Lib.hid (Nat.le_trans HBW.out hb.size)
        replace HC := Lib.hid (HC.out.below hb)
        replace HC4 := Lib.hid (c4_below HC4.out hb)
        replace HY := Lib.hid (HY.out.here hb)
        clear hb
        refine wp_region_held_drew (S := fun w' => w'.cell? ⟨kt, 0, none⟩ = some (.int .i64 i)) (by kernel_rfl) (HC.out.cell 0 _ rfl) (fun hHeld => ?_)
        obtain ⟨w6, hw6⟩ : ∃ x, x = w5.drew := ⟨_, rfl⟩
        rw [← hw6] at HX HO HL HBW HC HC4 HY hHeld ⊢
        clear hw6
        refine wpAnyH_take (i := 0) (oi := { dst := some _, op := _, type := _, pos := _, after := _, guard := _ }) (v := ?_) rfl (by kernel_rfl) (by kernel_rfl) (by kernel_rfl) (fun _ _ _ h => h) ?_ (by with_reducible assumption) ?_
        rotate_left 1
        focus (refine Or.inl ⟨by rfl, ?_⟩; intro wq hSw; have q0 := hSw; go_simp; try with_reducible rfl)
        try simp only [Act.put, List.setIfInBounds_toArray, List.set_cons_zero, List.set_cons_succ]
        refine wpAnyH_take (i := 1) (oi := { dst := some _, op := _, type := _, pos := _, after := _, guard := _ }) (v := ?_) rfl (by kernel_rfl) (by kernel_rfl) (by kernel_rfl) (fun _ _ _ h => h) ?_ (by with_reducible assumption) ?_
        rotate_left 1
        focus (refine Or.inl ⟨by rfl, ?_⟩; intro wq hSw; have q0 := hSw; go_simp; try with_reducible rfl)
        try simp only [Act.put, List.setIfInBounds_toArray, List.set_cons_zero, List.set_cons_succ]
        refine wpAnyH_take (i := 2) (oi := { dst := some _, op := _, type := _, pos := _, after := _, guard := _ }) (v := ?_) rfl (by kernel_rfl) (by kernel_rfl) (by kernel_rfl) (fun _ _ _ h => h) ?_ (by with_reducible assumption) ?_
        rotate_left 1
        focus (refine Or.inl ⟨by rfl, ?_⟩; intro wq hSw; have q0 := hSw; go_simp; try with_reducible rfl)
        try simp only [Act.put, List.setIfInBounds_toArray, List.set_cons_zero, List.set_cons_succ]
        refine wpAnyH_take (i := 4) (oi := { dst := some _, op := _, type := _, pos := _, after := _, guard := _ }) (v := ?_) rfl (by kernel_rfl) (by kernel_rfl) (by kernel_rfl) (fun _ _ _ h => h) ?_ (by with_reducible assumption) ?_
        rotate_left 1
        focus (refine Or.inl ⟨by rfl, ?_⟩; intro wq hSw; have q0 := hSw; go_simp; try with_reducible rfl)
        try simp only [Act.put, List.setIfInBounds_toArray, List.set_cons_zero, List.set_cons_succ]
        refine wpAnyH_take (i := 5) (oi := { dst := some _, op := _, type := _, pos := _, after := _, guard := _ }) (v := ?_) rfl (by kernel_rfl) (by kernel_rfl) (by kernel_rfl) (fun _ _ _ h => h) ?_ (by with_reducible assumption) ?_
        rotate_left 1
        focus (refine Or.inl ⟨by rfl, ?_⟩; intro wq hSw; have q0 := hSw; go_simp; try with_reducible rfl)
        try simp only [Act.put, List.setIfInBounds_toArray, List.set_cons_zero, List.set_cons_succ]
        refine wpAnyH_ready (rs := [3]) (by kernel_rfl) (by simp) ?_
        refine AllReadyH.cons rfl (fun KA hKA => ?_) AllReadyH.nil
        obtain ⟨z0, z1, z2, z3⟩ := HC4.out
        go_simp
        clear z0 z1 z2 z3
        refine hKA.out _ _ ((HC.out.cell 0 _ rfl)) (fun hHeld => ?_)
        clear hKA
        try simp only [Act.put, List.setIfInBounds_toArray, List.set_cons_zero, List.set_cons_succ]
        refine wpAnyH_ready (rs := [6]) (by kernel_rfl) (by simp) ?_
        refine AllReadyH.cons rfl (fun KF hKF => ?_) AllReadyH.nil
        go_simp
        refine (Lnk.forget_any _ fa0 fl fc0 kk.up kk.ep kk.sq kk.l i HY.out (by have := HY.out.hlen; have := HYF.out; omega)).mono ?_
        rintro e w7 ⟨⟨a2, cap2, rfl, hoy⟩, hb⟩
        obtain ⟨k2, hk2⟩ : ∃ k, k = fgtK kk i := ⟨_, rfl⟩
        rw [show fgtL kk.up kk.ep kk.sq kk.l i = k2.l by rw [hk2]; rfl] at hoy ⊢
        rw [show kk.up = k2.up by rw [hk2]; rfl, show kk.ep = k2.ep by rw [hk2]; rfl, show kk.sq = k2.sq by rw [hk2]; rfl]
        obtain ⟨n2, hn2⟩ : ∃ n, n = k2.l.length := ⟨_, rfl⟩
        rw [← hn2] at hoy ⊢
        have HK2 := Lib.hid hk2
        have HRW := Lib.hid (HO.out.rows.new (r := flR (.slice a2 n2 cap2) k2.l) hb hoy HBW.out)
        replace HX := Lib.hid (HX.out.below hb)
        replace HO := Lib.hid (HO.out.below hb)
        replace HL := Lib.hid (HL.out.trans (hb.mono HBW.out))
        replace HBW := Lib.hid (Nat.le_trans HBW.out hb.size)
        replace HC := Lib.hid (HC.out.below hb)
        replace HC4 := Lib.hid (c4_below HC4.out hb)
        clear hb hoy hk2 hn2 hHeld HY
        dsimp only
        refine hKF.out _ _ ((HC.out.cell 0 _ rfl)) (fun hHeld => ?_)
        clear hKF
        try simp only [Act.put, List.setIfInBounds_toArray, List.set_cons_zero, List.set_cons_succ]
        refine wpAnyH_take (i := 7) (oi := { dst := some _, op := _, type := _, pos := _, after := _, guard := _ }) (v := ?_) rfl (by kernel_rfl) (by kernel_rfl) (by kernel_rfl) (fun _ _ _ h => h) ?_ (by with_reducible assumption) ?_
        rotate_left 1
        focus (refine Or.inl ⟨by rfl, ?_⟩; intro wq hSw; go_simp; try with_reducible rfl)
        try simp only [Act.put, List.setIfInBounds_toArray, List.set_cons_zero, List.set_cons_succ]
        have hro : ROwn lrS B w7 56 (.slice (some ⟨gk, 0, none⟩) K.length kc) (rawOf KJ vs) := HO.out.lkO
        have hmr : m < (rawOf KJ vs).length := by rw [rawOf_len HO.out.len]; exact HMJ.out
        obtain ⟨⟨z0, z1, z2, z3, hzz, d0, d1, d2, d3⟩, f0, f1, f2, f3⟩ := lown_at hro m hmr
        have hst := lown_set hro m hmr k2.up k2.ep k2.sq (.slice a2 n2 cap2)
        refine wpAnyH_ready (rs := [8]) (by kernel_rfl) (by simp) ?_
        refine AllReadyH.cons rfl (fun KS hKS => ?_) AllReadyH.nil
        go_simp
        obtain ⟨w8, hw8⟩ : ∃ V, V = (((w7.setCell ⟨gk, m * 4, none⟩ (.bool k2.up)).setCell ⟨gk, m * 4 + 1, none⟩ (.int .i64 k2.ep)).setCell ⟨gk, m * 4 + 2, none⟩ (.int .i64 k2.sq)).setCell ⟨gk, m * 4 + 3, none⟩ (.slice a2 n2 cap2) := ⟨_, rfl⟩
        rw [← hw8] at hst ⊢
        have ho8 := GOwn.setLk (k := k2) m HO.out HRW.out hst.2 hst.1
        have HK7 := Lib.hid (show oldKs nw K E (j + 1) = KJ.set m k2 by
          rw [oldKs_step nw K E j hjl HEM.out, ← HKJ.out]
          unfold oldK
          rw [HOL.out, if_pos rfl, fgtK_at HMJ.out HMD.out HKK.out.symm, HK2.out])
        have hat : (lrR (.slice (some ⟨gk, 0, none⟩) K.length kc) (rawOf KJ vs)).At B w7 := hro
        have hne3 : some kt ≠ some gk := fun e => by injection e; have := HTK.out; omega
        replace HX := Lib.hid (HX.out.grown hst.2 (hat.ne_box rfl HX.out rfl))
        replace HC := Lib.hid (HC.out.grown hst.2 hne3)
        replace HL := Lib.hid (HL.out.grown hst.2 HBW.out (fun q e => by cases e; exact hgk1))
        replace HBW := Lib.hid (Nat.le_trans HBW.out hst.2.size)
        replace HO := Lib.hid ho8
        clear ho8 hst hw8 hat hro hmr hzz d0 d1 d2 d3 f0 f1 f2 f3 hne3 hHeld HC4
        refine hKS.out _ _ ((HC.out.cell 0 _ rfl)) (fun hHeld => ?_)
        clear hKS
        try simp only [Act.put, List.setIfInBounds_toArray, List.set_cons_zero, List.set_cons_succ]
        refine wpAnyH_done (by kernel_rfl) ?_ _
        clear hHeld
        go_wp2_with fail
        go_roundw
        case rel => exact ⟨j + 1, E4, KJ.set m k2, _, by omega, by go_num, Lib.hid HE7.out.symm, Lib.hid HK7.out.symm, HX, HO, HL, HBW⟩
        case measure => simp [intOf]; omega

    · obtain rfl : j = E.length := by omega
      have HFO := Lib.hid (show GOwn B wr (.slice ea E.length ec) (.slice ka K.length kc) (.slice fa F.length fc) (.slice ra R.length rc) vs (E.map (oldE nw)) (oldKs nw K E E.length) F R by have h1 := HO.out; rw [HEJ.out, HKJ.out, oldEs_all] at h1; exact h1)
      clear HO hlt hj
      go_wp2_with fail
      exact bodyPost_end (v := .tuple #[]) (by simp [results, Try.results61]) rfl ⟨rfl, HX.out, ⟨vs, HFO.out⟩, HL.out⟩

end Go.Proofs.Ytlcllbdalabciaa.Gat
