/-
  ticker.dead.
-/
import Derived.Test.YtlcllbdalabciaaGiLm
import Derived.Test.YtlcllbdalabciaaGcLm
namespace Go.Proofs.Ytlcllbdalabciaa.Gat
open Go.RowKit
open Lnk (bOne bAfter IOwn IIs YOwn YIs below_keep below_drew' bcell low_after low_alloc grown_of_below)
set_option linter.unusedVariables false
set_option linter.unusedSimpArgs false

theorem ne_ie' : (3 : TypeId) ≠ 81 := by decide

set_option maxRecDepth 100000 in
set_option maxHeartbeats 8000000 in
theorem tkDead_any (w : World) (B kb : Nat) (de qu wi ti qa bu le pb pc pj pt nw la : Int) (ea : Option Addr) (ec : Nat) (ka : Option Addr) (kc : Nat) (tu : Int) (fa : Option Addr) (fc : Nat) (ra : Option Addr) (rc : Nat) (tk ac dr dw : Int) (vs : List Value) (E : List Ev) (K : List Lk) (F R : List Int) (hx : Box w kb 76 ([.int .i64 de, .int .i64 qu, .int .i64 wi, .int .i64 ti, .int .i64 qa, .int .i64 bu, .int .i64 le, .int .i64 pb, .int .i64 pc, .int .i64 pj, .int .i64 pt, .int .i64 nw, .int .i64 la, .slice ea E.length ec, .slice ka K.length kc, .int .i64 tu, .slice fa F.length fc, .slice ra R.length rc, .int .i64 tk, .int .i64 ac, .int .i64 dr] ++ [.int .i64 dw, .slice none 0 0])) (hkb : B ≤ kb) (h : GOwn B w (.slice ea E.length ec) (.slice ka K.length kc) (.slice fa F.length fc) (.slice ra R.length rc) vs E K F R) (hB : B ≤ w.heap.size) (hen : E.length ≤ 1048576) (hle : le ≤ 1000000) (hrl : R.length ≤ 1000000) :
    Calls Try.prog 62 #[.pointer (some ⟨kb, 0, none⟩)] w fun e w' => ∃ raj rcj, e = .returned (.tuple #[]) ∧ Box w' kb 76 ([.int .i64 de, .int .i64 qu, .int .i64 wi, .int .i64 ti, .int .i64 qa, .int .i64 bu, .int .i64 le, .int .i64 pb, .int .i64 pc, .int .i64 pj, .int .i64 pt, .int .i64 nw, .int .i64 la, .slice ea E.length ec, .slice ka K.length kc, .int .i64 tu, .slice fa F.length fc, .slice raj (deadR le E R E.length).length rcj, .int .i64 tk, .int .i64 ac, .int .i64 dr] ++ [.int .i64 dw, .slice none 0 0]) ∧ GOwn B w' (.slice ea E.length ec) (.slice ka K.length kc) (.slice fa F.length fc) (.slice raj (deadR le E R E.length).length rcj) vs (deadEs le E R E.length) K F (deadR le E R E.length) ∧ Below B w w' := by
  have HX := Lib.hid hx
  have HO := Lib.hid h
  have HBW := Lib.hid hB
  have HKB := Lib.hid hkb
  clear hx h
  have c13 := HX.out.cell 13 _ rfl
  go_enter Try.func62, Try.ntmps62
  go_wp2_with fail
  clear c13
  go_loopw [11] (fun i wr => ∃ (j mR : Nat) (raj : Option Addr) (rcj : Nat) (EJ : List Ev) (RJ : List Int), j ≤ E.length ∧ i = .int .i64 j ∧ Hid (EJ = deadEs le E R j) ∧ Hid (RJ = deadR le E R j) ∧ Hid (mR = RJ.length) ∧ Hid (Box wr kb 76 ([.int .i64 de, .int .i64 qu, .int .i64 wi, .int .i64 ti, .int .i64 qa, .int .i64 bu, .int .i64 le, .int .i64 pb, .int .i64 pc, .int .i64 pj, .int .i64 pt, .int .i64 nw, .int .i64 la, .slice ea E.length ec, .slice ka K.length kc, .int .i64 tu, .slice fa F.length fc, .slice raj mR rcj, .int .i64 tk, .int .i64 ac, .int .i64 dr] ++ [.int .i64 dw, .slice none 0 0])) ∧ Hid (GOwn B wr (.slice ea E.length ec) (.slice ka K.length kc) (.slice fa F.length fc) (.slice raj mR rcj) vs EJ K F RJ) ∧ Hid (Below B w wr) ∧ Hid (B ≤ wr.heap.size)) (fun i _ => E.length - (intOf i).toNat)
  case atStart => exact ⟨0, R.length, ra, rc, E, R, by omega, rfl, Lib.hid rfl, Lib.hid rfl, Lib.hid rfl, HX, HO, Lib.hid (Below.refl _ _), Lib.hid hB⟩
  case round =>
    obtain ⟨j, mR, raj, rcj, EJ, RJ, hj, rfl, HEJ, HRJ, HMR, HX, HO, HL, HBW⟩ := hrel
    have HLE := Lib.hid (show EJ.length = E.length by rw [HEJ.out, deadEs_len])
    by_cases hlt : (j : Int) < (E.length : Int)
    · have hjl : j < E.length := by omega
      have hmr : mR ≤ 1000000 := by
        have h1 := deadR_len le E R j
        rw [← HRJ.out, ← HMR.out] at h1
        omega
      have hjm : j < EJ.length := by have := HLE.out; omega
      have hev : ROwn evS B wr 81 (.slice ea E.length ec) EJ := HO.out.evO
      obtain ⟨g, rfl, hg2⟩ := own_some hev (by omega)
      have hg1 : B ≤ g := (World.ownsRow.lt hev g rfl).1
      obtain ⟨i, d, c, bd, at_, t, r, n, s, hej⟩ : ∃ i d c bd at_ t r n s, E[j] = ⟨i, d, c, bd, at_, t, r, n, s⟩ := ⟨_, _, _, _, _, _, _, _, _, rfl⟩
      have hm : EJ[j] = ⟨i, d, c, bd, at_, t, r, n, s⟩ := (List.getElem?_eq_some_iff.1 (by rw [HEJ.out, deadEs_atq le E R j hjl, hej])).2
      obtain ⟨c0, c1, c2, c3, c4, c5, c6, c7, c8⟩ := eown_cellx hev j hjm hm
      have HEM := Lib.hid hej
      have HMM := Lib.hid hm
      have HJM := Lib.hid hjm
      clear hej hm
      go_upto_region 3 with fail
      clear c0 c1 c2 c3 c4 c5 c6 c7 c8
      have HXO := HX
      have hb := bOne wr (.cells #[.int .i64 i, .int .i64 d, .int .i64 c, .string bd, .int .i64 at_, .int .i64 t, .int .i64 r, .int .i64 n, .int .i64 s] 81)
      have HC := Lib.hid (Box.new wr [.int .i64 i, .int .i64 d, .int .i64 c, .string bd, .int .i64 at_, .int .i64 t, .int .i64 r, .int .i64 n, .int .i64 s] 81)

      replace HX := Lib.hid (HX.out.below hb)
      replace HO := Lib.hid (HO.out.below hb)
      replace HL := Lib.hid (HL.out.trans (hb.mono HBW.out))
      replace HBW := Lib.hid (Nat.le_trans HBW.out hb.size)
      clear hb
      obtain ⟨wk, hwk⟩ : ∃ V, V = wr.alloc (.cells #[.int .i64 i, .int .i64 d, .int .i64 c, .string bd, .int .i64 at_, .int .i64 t, .int .i64 r, .int .i64 n, .int .i64 s] 81) := ⟨_, rfl⟩
      obtain ⟨kt, hkt⟩ : ∃ k, k = wr.heap.size := ⟨_, rfl⟩
      have HTG := Lib.hid (show g < kt by rw [hkt]; exact hg2)
      have HTB := Lib.hid (show kb < kt by rw [hkt]; exact World.block_lt_of_cell? _ _ (HXO.out.cell 0 _ rfl))
      rw [← hwk] at HX HO HL HBW HC ⊢
      rw [← hkt] at HC ⊢
      clear hwk hkt hg2 hev HXO
      have hb := below_drew' (Below.refl wk.heap.size wk)
      replace HX := Lib.hid (HX.out.below hb)
      replace HO := Lib.hid (HO.out.below hb)
      replace HL := Lib.hid (HL.out.trans (hb.mono HBW.out))
      replace HBW := Lib.hid (Nat.le_trans HBW.out hb.size)
      replace HC := Lib.hid (HC.out.below hb)
      clear hb
      refine wp_region_held_drew (S := fun w' => w'.cell? ⟨kt, 8, none⟩ = some (.int .i64 s) ∧ w'.cell? ⟨kb, 17, none⟩ = some (.slice raj mR rcj) ∧ w'.cell? ⟨kb, 6, none⟩ = some (.int .i64 le)) (by kernel_rfl) ⟨HC.out.cell 8 _ rfl, HX.out.cell 17 _ rfl, HX.out.cell 6 _ rfl⟩ (fun hHeld => ?_)
      obtain ⟨wd, hwd⟩ : ∃ x, x = wk.drew := ⟨_, rfl⟩
      rw [← hwd] at HX HO HL HBW HC hHeld ⊢
      clear hwd
      cases h2 : (s == 2) with
      | false =>
        refine wpAnyH_take (i := 0) (oi := { dst := some _, op := _, type := _, pos := _, after := _, guard := _ }) (v := ?_) rfl (by kernel_rfl) (by kernel_rfl) (by kernel_rfl) (fun _ _ _ h => h) ?_ (by with_reducible assumption) ?_
        rotate_left 1
        focus (refine Or.inl ⟨by rfl, ?_⟩; intro wq hSw; go_simp; try with_reducible rfl)
        try simp only [Act.put, List.setIfInBounds_toArray, List.set_cons_zero, List.set_cons_succ]
        refine wpAnyH_take (i := 1) (oi := { dst := some _, op := _, type := _, pos := _, after := _, guard := _ }) (v := ?_) rfl (by kernel_rfl) (by kernel_rfl) (by kernel_rfl) (fun _ _ _ h => h) ?_ (by with_reducible assumption) ?_
        rotate_left 1
        focus (refine Or.inl ⟨by rfl, ?_⟩; intro wq hSw; have q0 := hSw.1; have q1 := hSw.2.1; have q2 := hSw.2.2; go_simp; try with_reducible rfl)
        try simp only [Act.put, List.setIfInBounds_toArray, List.set_cons_zero, List.set_cons_succ]
        refine wpAnyH_take (i := 2) (oi := { dst := some _, op := _, type := _, pos := _, after := _, guard := _ }) (v := ?_) rfl (by kernel_rfl) (by kernel_rfl) (by kernel_rfl) (fun _ _ _ h => h) ?_ (by with_reducible assumption) ?_
        rotate_left 1
        focus (refine Or.inl ⟨by rfl, ?_⟩; intro wq hSw; go_simp; try with_reducible rfl)
        try simp only [Act.put, List.setIfInBounds_toArray, List.set_cons_zero, List.set_cons_succ]
        refine wpAnyH_take (i := 3) (oi := { dst := some _, op := _, type := _, pos := _, after := _, guard := _ }) (v := ?_) rfl (by kernel_rfl) (by kernel_rfl) (by kernel_rfl) (fun _ _ _ h => h) ?_ (by with_reducible assumption) ?_
        rotate_left 1
        focus (refine Or.inl ⟨by rfl, ?_⟩; intro wq hSw; go_simp; try with_reducible rfl)
        try simp only [Act.put, List.setIfInBounds_toArray, List.set_cons_zero, List.set_cons_succ]
        refine wpAnyH_take (i := 4) (oi := { dst := some _, op := _, type := _, pos := _, after := _, guard := _ }) (v := undef) rfl (by kernel_rfl) (by kernel_rfl) (by kernel_rfl) (fun _ _ _ h => h) ?_ (by with_reducible assumption) ?_
        focus (exact Or.inr ⟨by rfl, rfl⟩)
        try simp only [Act.put, List.setIfInBounds_toArray, List.set_cons_zero, List.set_cons_succ]
        refine wpAnyH_take (i := 5) (oi := { dst := some _, op := _, type := _, pos := _, after := _, guard := _ }) (v := undef) rfl (by kernel_rfl) (by kernel_rfl) (by kernel_rfl) (fun _ _ _ h => h) ?_ (by with_reducible assumption) ?_
        focus (exact Or.inr ⟨by rfl, rfl⟩)
        try simp only [Act.put, List.setIfInBounds_toArray, List.set_cons_zero, List.set_cons_succ]
        refine wpAnyH_take (i := 6) (oi := { dst := some _, op := _, type := _, pos := _, after := _, guard := _ }) (v := undef) rfl (by kernel_rfl) (by kernel_rfl) (by kernel_rfl) (fun _ _ _ h => h) ?_ (by with_reducible assumption) ?_
        focus (exact Or.inr ⟨by rfl, rfl⟩)
        try simp only [Act.put, List.setIfInBounds_toArray, List.set_cons_zero, List.set_cons_succ]
        refine wpAnyH_take (i := 7) (oi := { dst := some _, op := _, type := _, pos := _, after := _, guard := _ }) (v := undef) rfl (by kernel_rfl) (by kernel_rfl) (by kernel_rfl) (fun _ _ _ h => h) ?_ (by with_reducible assumption) ?_
        focus (exact Or.inr ⟨by rfl, rfl⟩)
        try simp only [Act.put, List.setIfInBounds_toArray, List.set_cons_zero, List.set_cons_succ]
        refine wpAnyH_take (i := 8) (oi := { dst := some _, op := _, type := _, pos := _, after := _, guard := _ }) (v := undef) rfl (by kernel_rfl) (by kernel_rfl) (by kernel_rfl) (fun _ _ _ h => h) ?_ (by with_reducible assumption) ?_
        focus (exact Or.inr ⟨by rfl, rfl⟩)
        try simp only [Act.put, List.setIfInBounds_toArray, List.set_cons_zero, List.set_cons_succ]
        refine wpAnyH_take (i := 9) (oi := { dst := some _, op := _, type := _, pos := _, after := _, guard := _ }) (v := undef) rfl (by kernel_rfl) (by kernel_rfl) (by kernel_rfl) (fun _ _ _ h => h) ?_ (by with_reducible assumption) ?_
        focus (exact Or.inr ⟨by rfl, rfl⟩)
        try simp only [Act.put, List.setIfInBounds_toArray, List.set_cons_zero, List.set_cons_succ]
        refine wpAnyH_take (i := 10) (oi := { dst := some _, op := _, type := _, pos := _, after := _, guard := _ }) (v := undef) rfl (by kernel_rfl) (by kernel_rfl) (by kernel_rfl) (fun _ _ _ h => h) ?_ (by with_reducible assumption) ?_
        focus (exact Or.inr ⟨by rfl, rfl⟩)
        try simp only [Act.put, List.setIfInBounds_toArray, List.set_cons_zero, List.set_cons_succ]
        refine wpAnyH_take (i := 11) (oi := { dst := some _, op := _, type := _, pos := _, after := _, guard := _ }) (v := undef) rfl (by kernel_rfl) (by kernel_rfl) (by kernel_rfl) (fun _ _ _ h => h) ?_ (by with_reducible assumption) ?_
        focus (exact Or.inr ⟨by rfl, rfl⟩)
        try simp only [Act.put, List.setIfInBounds_toArray, List.set_cons_zero, List.set_cons_succ]
        refine wpAnyH_take (i := 12) (oi := { dst := some _, op := _, type := _, pos := _, after := _, guard := _ }) (v := undef) rfl (by kernel_rfl) (by kernel_rfl) (by kernel_rfl) (fun _ _ _ h => h) ?_ (by with_reducible assumption) ?_
        focus (exact Or.inr ⟨by rfl, rfl⟩)
        try simp only [Act.put, List.setIfInBounds_toArray, List.set_cons_zero, List.set_cons_succ]
        refine wpAnyH_take (i := 13) (oi := { dst := some _, op := _, type := _, pos := _, after := _, guard := _ }) (v := undef) rfl (by kernel_rfl) (by kernel_rfl) (by kernel_rfl) (fun _ _ _ h => h) ?_ (by with_reducible assumption) ?_
        focus (exact Or.inr ⟨by rfl, rfl⟩)
        try simp only [Act.put, List.setIfInBounds_toArray, List.set_cons_zero, List.set_cons_succ]
        refine wpAnyH_take (i := 14) (oi := { dst := some _, op := _, type := _, pos := _, after := _, guard := _ }) (v := undef) rfl (by kernel_rfl) (by kernel_rfl) (by kernel_rfl) (fun _ _ _ h => h) ?_ (by with_reducible assumption) ?_
        focus (exact Or.inr ⟨by rfl, rfl⟩)
        try simp only [Act.put, List.setIfInBounds_toArray, List.set_cons_zero, List.set_cons_succ]
        refine wpAnyH_take (i := 15) (oi := { dst := some _, op := _, type := _, pos := _, after := _, guard := _ }) (v := undef) rfl (by kernel_rfl) (by kernel_rfl) (by kernel_rfl) (fun _ _ _ h => h) ?_ (by with_reducible assumption) ?_
        focus (exact Or.inr ⟨by rfl, rfl⟩)
        try simp only [Act.put, List.setIfInBounds_toArray, List.set_cons_zero, List.set_cons_succ]
        refine wpAnyH_take (i := 16) (oi := { dst := some _, op := _, type := _, pos := _, after := _, guard := _ }) (v := undef) rfl (by kernel_rfl) (by kernel_rfl) (by kernel_rfl) (fun _ _ _ h => h) ?_ (by with_reducible assumption) ?_
        focus (exact Or.inr ⟨by rfl, rfl⟩)
        try simp only [Act.put, List.setIfInBounds_toArray, List.set_cons_zero, List.set_cons_succ]
        refine wpAnyH_take (i := 17) (oi := { dst := some _, op := _, type := _, pos := _, after := _, guard := _ }) (v := undef) rfl (by kernel_rfl) (by kernel_rfl) (by kernel_rfl) (fun _ _ _ h => h) ?_ (by with_reducible assumption) ?_
        focus (exact Or.inr ⟨by rfl, rfl⟩)
        try simp only [Act.put, List.setIfInBounds_toArray, List.set_cons_zero, List.set_cons_succ]
        refine wpAnyH_take (i := 18) (oi := { dst := some _, op := _, type := _, pos := _, after := _, guard := _ }) (v := undef) rfl (by kernel_rfl) (by kernel_rfl) (by kernel_rfl) (fun _ _ _ h => h) ?_ (by with_reducible assumption) ?_
        focus (exact Or.inr ⟨by rfl, rfl⟩)
        try simp only [Act.put, List.setIfInBounds_toArray, List.set_cons_zero, List.set_cons_succ]
        refine wpAnyH_take (i := 19) (oi := { dst := some _, op := _, type := _, pos := _, after := _, guard := _ }) (v := ?_) rfl (by kernel_rfl) (by kernel_rfl) (by kernel_rfl) (fun _ _ _ h => h) ?_ (by with_reducible assumption) ?_
        rotate_left 1
        focus (refine Or.inl ⟨by rfl, ?_⟩; intro wq hSw; go_simp; try with_reducible rfl)
        try simp only [Act.put, List.setIfInBounds_toArray, List.set_cons_zero, List.set_cons_succ]
        refine wpAnyH_done (by kernel_rfl) ?_ _
        clear hHeld
        have HE2 := Lib.hid (deadEs_no (le := le) (R := R) hjl HEM.out (.inl h2))
        have HR2 := Lib.hid (deadR_no (le := le) (R := R) hjl HEM.out (.inl h2))
        go_wp2_with fail
        go_roundw
        case rel => exact ⟨j + 1, mR, raj, rcj, EJ, RJ, by omega, by go_num, Lib.hid (by rw [HE2.out, HEJ.out]), Lib.hid (by rw [HR2.out, HRJ.out]), HMR, HX, HO, HL, HBW⟩
        case measure => simp [intOf]; omega
      | true =>
        cases h3 : decide ((mR : Int) < le) with
        | false =>
          refine wpAnyH_take (i := 0) (oi := { dst := some _, op := _, type := _, pos := _, after := _, guard := _ }) (v := ?_) rfl (by kernel_rfl) (by kernel_rfl) (by kernel_rfl) (fun _ _ _ h => h) ?_ (by with_reducible assumption) ?_
          rotate_left 1
          focus (refine Or.inl ⟨by rfl, ?_⟩; intro wq hSw; go_simp; try with_reducible rfl)
          try simp only [Act.put, List.setIfInBounds_toArray, List.set_cons_zero, List.set_cons_succ]
          refine wpAnyH_take (i := 1) (oi := { dst := some _, op := _, type := _, pos := _, after := _, guard := _ }) (v := ?_) rfl (by kernel_rfl) (by kernel_rfl) (by kernel_rfl) (fun _ _ _ h => h) ?_ (by with_reducible assumption) ?_
          rotate_left 1
          focus (refine Or.inl ⟨by rfl, ?_⟩; intro wq hSw; have q0 := hSw.1; have q1 := hSw.2.1; have q2 := hSw.2.2; go_simp; try with_reducible rfl)
          try simp only [Act.put, List.setIfInBounds_toArray, List.set_cons_zero, List.set_cons_succ]
          refine wpAnyH_take (i := 2) (oi := { dst := some _, op := _, type := _, pos := _, after := _, guard := _ }) (v := ?_) rfl (by kernel_rfl) (by kernel_rfl) (by kernel_rfl) (fun _ _ _ h => h) ?_ (by with_reducible assumption) ?_
          rotate_left 1
          focus (refine Or.inl ⟨by rfl, ?_⟩; intro wq hSw; have q0 := hSw.1; have q1 := hSw.2.1; have q2 := hSw.2.2; go_simp; try with_reducible rfl)
          try simp only [Act.put, List.setIfInBounds_toArray, List.set_cons_zero, List.set_cons_succ]
          refine wpAnyH_take (i := 3) (oi := { dst := some _, op := _, type := _, pos := _, after := _, guard := _ }) (v := ?_) rfl (by kernel_rfl) (by kernel_rfl) (by kernel_rfl) (fun _ _ _ h => h) ?_ (by with_reducible assumption) ?_
          rotate_left 1
          focus (refine Or.inl ⟨by rfl, ?_⟩; intro wq hSw; have q0 := hSw.1; have q1 := hSw.2.1; have q2 := hSw.2.2; go_simp; try with_reducible rfl)
          try simp only [Act.put, List.setIfInBounds_toArray, List.set_cons_zero, List.set_cons_succ]
          refine wpAnyH_take (i := 4) (oi := { dst := some _, op := _, type := _, pos := _, after := _, guard := _ }) (v := ?_) rfl (by kernel_rfl) (by kernel_rfl) (by kernel_rfl) (fun _ _ _ h => h) ?_ (by with_reducible assumption) ?_
          rotate_left 1
          focus (refine Or.inl ⟨by rfl, ?_⟩; intro wq hSw; have q0 := hSw.1; have q1 := hSw.2.1; have q2 := hSw.2.2; go_simp; try with_reducible rfl)
          try simp only [Act.put, List.setIfInBounds_toArray, List.set_cons_zero, List.set_cons_succ]
          refine wpAnyH_take (i := 5) (oi := { dst := some _, op := _, type := _, pos := _, after := _, guard := _ }) (v := ?_) rfl (by kernel_rfl) (by kernel_rfl) (by kernel_rfl) (fun _ _ _ h => h) ?_ (by with_reducible assumption) ?_
          rotate_left 1
          focus (refine Or.inl ⟨by rfl, ?_⟩; intro wq hSw; have q0 := hSw.1; have q1 := hSw.2.1; have q2 := hSw.2.2; go_simp; try with_reducible rfl)
          try simp only [Act.put, List.setIfInBounds_toArray, List.set_cons_zero, List.set_cons_succ]
          refine wpAnyH_take (i := 6) (oi := { dst := some _, op := _, type := _, pos := _, after := _, guard := _ }) (v := ?_) rfl (by kernel_rfl) (by kernel_rfl) (by kernel_rfl) (fun _ _ _ h => h) ?_ (by with_reducible assumption) ?_
          rotate_left 1
          focus (refine Or.inl ⟨by rfl, ?_⟩; intro wq hSw; have q0 := hSw.1; have q1 := hSw.2.1; have q2 := hSw.2.2; go_simp; try with_reducible rfl)
          try simp only [Act.put, List.setIfInBounds_toArray, List.set_cons_zero, List.set_cons_succ]
          refine wpAnyH_take (i := 7) (oi := { dst := some _, op := _, type := _, pos := _, after := _, guard := _ }) (v := ?_) rfl (by kernel_rfl) (by kernel_rfl) (by kernel_rfl) (fun _ _ _ h => h) ?_ (by with_reducible assumption) ?_
          rotate_left 1
          focus (refine Or.inl ⟨by rfl, ?_⟩; intro wq hSw; have q0 := hSw.1; have q1 := hSw.2.1; have q2 := hSw.2.2; go_simp; try with_reducible rfl)
          try simp only [Act.put, List.setIfInBounds_toArray, List.set_cons_zero, List.set_cons_succ]
          refine wpAnyH_take (i := 8) (oi := { dst := some _, op := _, type := _, pos := _, after := _, guard := _ }) (v := ?_) rfl (by kernel_rfl) (by kernel_rfl) (by kernel_rfl) (fun _ _ _ h => h) ?_ (by with_reducible assumption) ?_
          rotate_left 1
          focus (refine Or.inl ⟨by rfl, ?_⟩; intro wq hSw; have q0 := hSw.1; have q1 := hSw.2.1; have q2 := hSw.2.2; go_simp; try with_reducible rfl)
          try simp only [Act.put, List.setIfInBounds_toArray, List.set_cons_zero, List.set_cons_succ]
          refine wpAnyH_take (i := 9) (oi := { dst := some _, op := _, type := _, pos := _, after := _, guard := _ }) (v := ?_) rfl (by kernel_rfl) (by kernel_rfl) (by kernel_rfl) (fun _ _ _ h => h) ?_ (by with_reducible assumption) ?_
          rotate_left 1
          focus (refine Or.inl ⟨by rfl, ?_⟩; intro wq hSw; have q0 := hSw.1; have q1 := hSw.2.1; have q2 := hSw.2.2; go_simp; try with_reducible rfl)
          try simp only [Act.put, List.setIfInBounds_toArray, List.set_cons_zero, List.set_cons_succ]
          refine wpAnyH_take (i := 10) (oi := { dst := some _, op := _, type := _, pos := _, after := _, guard := _ }) (v := ?_) rfl (by kernel_rfl) (by kernel_rfl) (by kernel_rfl) (fun _ _ _ h => h) ?_ (by with_reducible assumption) ?_
          rotate_left 1
          focus (refine Or.inl ⟨by rfl, ?_⟩; intro wq hSw; have q0 := hSw.1; have q1 := hSw.2.1; have q2 := hSw.2.2; go_simp; try with_reducible rfl)
          try simp only [Act.put, List.setIfInBounds_toArray, List.set_cons_zero, List.set_cons_succ]
          refine wpAnyH_take (i := 11) (oi := { dst := some _, op := _, type := _, pos := _, after := _, guard := _ }) (v := ?_) rfl (by kernel_rfl) (by kernel_rfl) (by kernel_rfl) (fun _ _ _ h => h) ?_ (by with_reducible assumption) ?_
          rotate_left 1
          focus (refine Or.inl ⟨by rfl, ?_⟩; intro wq hSw; have q0 := hSw.1; have q1 := hSw.2.1; have q2 := hSw.2.2; go_simp; try with_reducible rfl)
          try simp only [Act.put, List.setIfInBounds_toArray, List.set_cons_zero, List.set_cons_succ]
          refine wpAnyH_take (i := 12) (oi := { dst := some _, op := _, type := _, pos := _, after := _, guard := _ }) (v := ?_) rfl (by kernel_rfl) (by kernel_rfl) (by kernel_rfl) (fun _ _ _ h => h) ?_ (by with_reducible assumption) ?_
          rotate_left 1
          focus (refine Or.inl ⟨by rfl, ?_⟩; intro wq hSw; have q0 := hSw.1; have q1 := hSw.2.1; have q2 := hSw.2.2; go_simp; try with_reducible rfl)
          try simp only [Act.put, List.setIfInBounds_toArray, List.set_cons_zero, List.set_cons_succ]
          refine wpAnyH_take (i := 13) (oi := { dst := some _, op := _, type := _, pos := _, after := _, guard := _ }) (v := ?_) rfl (by kernel_rfl) (by kernel_rfl) (by kernel_rfl) (fun _ _ _ h => h) ?_ (by with_reducible assumption) ?_
          rotate_left 1
          focus (refine Or.inl ⟨by rfl, ?_⟩; intro wq hSw; have q0 := hSw.1; have q1 := hSw.2.1; have q2 := hSw.2.2; go_simp; try with_reducible rfl)
          try simp only [Act.put, List.setIfInBounds_toArray, List.set_cons_zero, List.set_cons_succ]
          refine wpAnyH_take (i := 14) (oi := { dst := some _, op := _, type := _, pos := _, after := _, guard := _ }) (v := ?_) rfl (by kernel_rfl) (by kernel_rfl) (by kernel_rfl) (fun _ _ _ h => h) ?_ (by with_reducible assumption) ?_
          rotate_left 1
          focus (refine Or.inl ⟨by rfl, ?_⟩; intro wq hSw; have q0 := hSw.1; have q1 := hSw.2.1; have q2 := hSw.2.2; go_simp; try with_reducible rfl)
          try simp only [Act.put, List.setIfInBounds_toArray, List.set_cons_zero, List.set_cons_succ]
          refine wpAnyH_take (i := 15) (oi := { dst := some _, op := _, type := _, pos := _, after := _, guard := _ }) (v := ?_) rfl (by kernel_rfl) (by kernel_rfl) (by kernel_rfl) (fun _ _ _ h => h) ?_ (by with_reducible assumption) ?_
          rotate_left 1
          focus (refine Or.inl ⟨by rfl, ?_⟩; intro wq hSw; have q0 := hSw.1; have q1 := hSw.2.1; have q2 := hSw.2.2; go_simp; try with_reducible rfl)
          try simp only [Act.put, List.setIfInBounds_toArray, List.set_cons_zero, List.set_cons_succ]
          refine wpAnyH_take (i := 16) (oi := { dst := some _, op := _, type := _, pos := _, after := _, guard := _ }) (v := ?_) rfl (by kernel_rfl) (by kernel_rfl) (by kernel_rfl) (fun _ _ _ h => h) ?_ (by with_reducible assumption) ?_
          rotate_left 1
          focus (refine Or.inl ⟨by rfl, ?_⟩; intro wq hSw; have q0 := hSw.1; have q1 := hSw.2.1; have q2 := hSw.2.2; go_simp; try with_reducible rfl)
          try simp only [Act.put, List.setIfInBounds_toArray, List.set_cons_zero, List.set_cons_succ]
          refine wpAnyH_take (i := 17) (oi := { dst := some _, op := _, type := _, pos := _, after := _, guard := _ }) (v := ?_) rfl (by kernel_rfl) (by kernel_rfl) (by kernel_rfl) (fun _ _ _ h => h) ?_ (by with_reducible assumption) ?_
          rotate_left 1
          focus (refine Or.inl ⟨by rfl, ?_⟩; intro wq hSw; have q0 := hSw.1; have q1 := hSw.2.1; have q2 := hSw.2.2; go_simp; try with_reducible rfl)
          try simp only [Act.put, List.setIfInBounds_toArray, List.set_cons_zero, List.set_cons_succ]
          refine wpAnyH_take (i := 18) (oi := { dst := some _, op := _, type := _, pos := _, after := _, guard := _ }) (v := ?_) rfl (by kernel_rfl) (by kernel_rfl) (by kernel_rfl) (fun _ _ _ h => h) ?_ (by with_reducible assumption) ?_
          rotate_left 1
          focus (refine Or.inl ⟨by rfl, ?_⟩; intro wq hSw; have q0 := hSw.1; have q1 := hSw.2.1; have q2 := hSw.2.2; go_simp; try with_reducible rfl)
          try simp only [Act.put, List.setIfInBounds_toArray, List.set_cons_zero, List.set_cons_succ]
          refine wpAnyH_take (i := 19) (oi := { dst := some _, op := _, type := _, pos := _, after := _, guard := _ }) (v := ?_) rfl (by kernel_rfl) (by kernel_rfl) (by kernel_rfl) (fun _ _ _ h => h) ?_ (by with_reducible assumption) ?_
          rotate_left 1
          focus (refine Or.inl ⟨by rfl, ?_⟩; intro wq hSw; have q0 := hSw.1; have q1 := hSw.2.1; have q2 := hSw.2.2; go_simp; try with_reducible rfl)
          try simp only [Act.put, List.setIfInBounds_toArray, List.set_cons_zero, List.set_cons_succ]
          refine wpAnyH_done (by kernel_rfl) ?_ _
          clear hHeld
          have HE2 := Lib.hid (deadEs_no (le := le) (R := R) hjl HEM.out (.inr (by rw [← HRJ.out, ← HMR.out]; exact h3)))
          have HR2 := Lib.hid (deadR_no (le := le) (R := R) hjl HEM.out (.inr (by rw [← HRJ.out, ← HMR.out]; exact h3)))
          go_wp2_with fail
          go_roundw
          case rel => exact ⟨j + 1, mR, raj, rcj, EJ, RJ, by omega, by go_num, Lib.hid (by rw [HE2.out, HEJ.out]), Lib.hid (by rw [HR2.out, HRJ.out]), HMR, HX, HO, HL, HBW⟩
          case measure => simp [intOf]; omega
        | true =>
          refine wpAnyH_take (i := 0) (oi := { dst := some _, op := _, type := _, pos := _, after := _, guard := _ }) (v := ?_) rfl (by kernel_rfl) (by kernel_rfl) (by kernel_rfl) (fun _ _ _ h => h) ?_ (by with_reducible assumption) ?_
          rotate_left 1
          focus (refine Or.inl ⟨by rfl, ?_⟩; intro wq hSw; go_simp; try with_reducible rfl)
          try simp only [Act.put, List.setIfInBounds_toArray, List.set_cons_zero, List.set_cons_succ]
          refine wpAnyH_take (i := 1) (oi := { dst := some _, op := _, type := _, pos := _, after := _, guard := _ }) (v := ?_) rfl (by kernel_rfl) (by kernel_rfl) (by kernel_rfl) (fun _ _ _ h => h) ?_ (by with_reducible assumption) ?_
          rotate_left 1
          focus (refine Or.inl ⟨by rfl, ?_⟩; intro wq hSw; have q0 := hSw.1; have q1 := hSw.2.1; have q2 := hSw.2.2; go_simp; try with_reducible rfl)
          try simp only [Act.put, List.setIfInBounds_toArray, List.set_cons_zero, List.set_cons_succ]
          refine wpAnyH_take (i := 2) (oi := { dst := some _, op := _, type := _, pos := _, after := _, guard := _ }) (v := ?_) rfl (by kernel_rfl) (by kernel_rfl) (by kernel_rfl) (fun _ _ _ h => h) ?_ (by with_reducible assumption) ?_
          rotate_left 1
          focus (refine Or.inl ⟨by rfl, ?_⟩; intro wq hSw; have q0 := hSw.1; have q1 := hSw.2.1; have q2 := hSw.2.2; go_simp; try with_reducible rfl)
          try simp only [Act.put, List.setIfInBounds_toArray, List.set_cons_zero, List.set_cons_succ]
          refine wpAnyH_take (i := 3) (oi := { dst := some _, op := _, type := _, pos := _, after := _, guard := _ }) (v := ?_) rfl (by kernel_rfl) (by kernel_rfl) (by kernel_rfl) (fun _ _ _ h => h) ?_ (by with_reducible assumption) ?_
          rotate_left 1
          focus (refine Or.inl ⟨by rfl, ?_⟩; intro wq hSw; have q0 := hSw.1; have q1 := hSw.2.1; have q2 := hSw.2.2; go_simp; try with_reducible rfl)
          try simp only [Act.put, List.setIfInBounds_toArray, List.set_cons_zero, List.set_cons_succ]
          refine wpAnyH_take (i := 4) (oi := { dst := some _, op := _, type := _, pos := _, after := _, guard := _ }) (v := ?_) rfl (by kernel_rfl) (by kernel_rfl) (by kernel_rfl) (fun _ _ _ h => h) ?_ (by with_reducible assumption) ?_
          rotate_left 1
          focus (refine Or.inl ⟨by rfl, ?_⟩; intro wq hSw; have q0 := hSw.1; have q1 := hSw.2.1; have q2 := hSw.2.2; go_simp; try with_reducible rfl)
          try simp only [Act.put, List.setIfInBounds_toArray, List.set_cons_zero, List.set_cons_succ]
          refine wpAnyH_take (i := 5) (oi := { dst := some _, op := _, type := _, pos := _, after := _, guard := _ }) (v := ?_) rfl (by kernel_rfl) (by kernel_rfl) (by kernel_rfl) (fun _ _ _ h => h) ?_ (by with_reducible assumption) ?_
          rotate_left 1
          focus (refine Or.inl ⟨by rfl, ?_⟩; intro wq hSw; have q0 := hSw.1; have q1 := hSw.2.1; have q2 := hSw.2.2; go_simp; try with_reducible rfl)
          try simp only [Act.put, List.setIfInBounds_toArray, List.set_cons_zero, List.set_cons_succ]
          refine wpAnyH_take (i := 6) (oi := { dst := some _, op := _, type := _, pos := _, after := _, guard := _ }) (v := ?_) rfl (by kernel_rfl) (by kernel_rfl) (by kernel_rfl) (fun _ _ _ h => h) ?_ (by with_reducible assumption) ?_
          rotate_left 1
          focus (refine Or.inl ⟨by rfl, ?_⟩; intro wq hSw; have q0 := hSw.1; have q1 := hSw.2.1; have q2 := hSw.2.2; go_simp; try with_reducible rfl)
          try simp only [Act.put, List.setIfInBounds_toArray, List.set_cons_zero, List.set_cons_succ]
          refine wpAnyH_take (i := 7) (oi := { dst := some _, op := _, type := _, pos := _, after := _, guard := _ }) (v := ?_) rfl (by kernel_rfl) (by kernel_rfl) (by kernel_rfl) (fun _ _ _ h => h) ?_ (by with_reducible assumption) ?_
          rotate_left 1
          focus (refine Or.inl ⟨by rfl, ?_⟩; intro wq hSw; have q0 := hSw.1; have q1 := hSw.2.1; have q2 := hSw.2.2; go_simp; try with_reducible rfl)
          try simp only [Act.put, List.setIfInBounds_toArray, List.set_cons_zero, List.set_cons_succ]
          refine wpAnyH_take (i := 8) (oi := { dst := some _, op := _, type := _, pos := _, after := _, guard := _ }) (v := ?_) rfl (by kernel_rfl) (by kernel_rfl) (by kernel_rfl) (fun _ _ _ h => h) ?_ (by with_reducible assumption) ?_
          rotate_left 1
          focus (refine Or.inl ⟨by rfl, ?_⟩; intro wq hSw; have q0 := hSw.1; have q1 := hSw.2.1; have q2 := hSw.2.2; go_simp; try with_reducible rfl)
          try simp only [Act.put, List.setIfInBounds_toArray, List.set_cons_zero, List.set_cons_succ]
          refine wpAnyH_take (i := 9) (oi := { dst := some _, op := _, type := _, pos := _, after := _, guard := _ }) (v := ?_) rfl (by kernel_rfl) (by kernel_rfl) (by kernel_rfl) (fun _ _ _ h => h) ?_ (by with_reducible assumption) ?_
          rotate_left 1
          focus (refine Or.inl ⟨by rfl, ?_⟩; intro wq hSw; have q0 := hSw.1; have q1 := hSw.2.1; have q2 := hSw.2.2; go_simp; try with_reducible rfl)
          try simp only [Act.put, List.setIfInBounds_toArray, List.set_cons_zero, List.set_cons_succ]
          refine wpAnyH_take (i := 10) (oi := { dst := some _, op := _, type := _, pos := _, after := _, guard := _ }) (v := ?_) rfl (by kernel_rfl) (by kernel_rfl) (by kernel_rfl) (fun _ _ _ h => h) ?_ (by with_reducible assumption) ?_
          rotate_left 1
          focus (refine Or.inl ⟨by rfl, ?_⟩; intro wq hSw; have q0 := hSw.1; have q1 := hSw.2.1; have q2 := hSw.2.2; go_simp; try with_reducible rfl)
          try simp only [Act.put, List.setIfInBounds_toArray, List.set_cons_zero, List.set_cons_succ]
          refine wpAnyH_take (i := 11) (oi := { dst := some _, op := _, type := _, pos := _, after := _, guard := _ }) (v := ?_) rfl (by kernel_rfl) (by kernel_rfl) (by kernel_rfl) (fun _ _ _ h => h) ?_ (by with_reducible assumption) ?_
          rotate_left 1
          focus (refine Or.inl ⟨by rfl, ?_⟩; intro wq hSw; have q0 := hSw.1; have q1 := hSw.2.1; have q2 := hSw.2.2; go_simp; try with_reducible rfl)
          try simp only [Act.put, List.setIfInBounds_toArray, List.set_cons_zero, List.set_cons_succ]
          refine wpAnyH_take (i := 12) (oi := { dst := some _, op := _, type := _, pos := _, after := _, guard := _ }) (v := ?_) rfl (by kernel_rfl) (by kernel_rfl) (by kernel_rfl) (fun _ _ _ h => h) ?_ (by with_reducible assumption) ?_
          rotate_left 1
          focus (refine Or.inl ⟨by rfl, ?_⟩; intro wq hSw; have q0 := hSw.1; have q1 := hSw.2.1; have q2 := hSw.2.2; go_simp; try with_reducible rfl)
          try simp only [Act.put, List.setIfInBounds_toArray, List.set_cons_zero, List.set_cons_succ]
          refine wpAnyH_take (i := 13) (oi := { dst := some _, op := _, type := _, pos := _, after := _, guard := _ }) (v := ?_) rfl (by kernel_rfl) (by kernel_rfl) (by kernel_rfl) (fun _ _ _ h => h) ?_ (by with_reducible assumption) ?_
          rotate_left 1
          focus (refine Or.inl ⟨by rfl, ?_⟩; intro wq hSw; have q0 := hSw.1; have q1 := hSw.2.1; have q2 := hSw.2.2; go_simp; try with_reducible rfl)
          try simp only [Act.put, List.setIfInBounds_toArray, List.set_cons_zero, List.set_cons_succ]
          refine wpAnyH_take (i := 14) (oi := { dst := some _, op := _, type := _, pos := _, after := _, guard := _ }) (v := ?_) rfl (by kernel_rfl) (by kernel_rfl) (by kernel_rfl) (fun _ _ _ h => h) ?_ (by with_reducible assumption) ?_
          rotate_left 1
          focus (refine Or.inl ⟨by rfl, ?_⟩; intro wq hSw; have q0 := hSw.1; have q1 := hSw.2.1; have q2 := hSw.2.2; go_simp; try with_reducible rfl)
          try simp only [Act.put, List.setIfInBounds_toArray, List.set_cons_zero, List.set_cons_succ]
          refine wpAnyH_take (i := 15) (oi := { dst := some _, op := _, type := _, pos := _, after := _, guard := _ }) (v := ?_) rfl (by kernel_rfl) (by kernel_rfl) (by kernel_rfl) (fun _ _ _ h => h) ?_ (by with_reducible assumption) ?_
          rotate_left 1
          focus (refine Or.inl ⟨by rfl, ?_⟩; intro wq hSw; have q0 := hSw.1; have q1 := hSw.2.1; have q2 := hSw.2.2; go_simp; try with_reducible rfl)
          try simp only [Act.put, List.setIfInBounds_toArray, List.set_cons_zero, List.set_cons_succ]
          refine wpAnyH_take (i := 16) (oi := { dst := some _, op := _, type := _, pos := _, after := _, guard := _ }) (v := ?_) rfl (by kernel_rfl) (by kernel_rfl) (by kernel_rfl) (fun _ _ _ h => h) ?_ (by with_reducible assumption) ?_
          rotate_left 1
          focus (refine Or.inl ⟨by rfl, ?_⟩; intro wq hSw; have q0 := hSw.1; have q1 := hSw.2.1; have q2 := hSw.2.2; go_simp; try with_reducible rfl)
          try simp only [Act.put, List.setIfInBounds_toArray, List.set_cons_zero, List.set_cons_succ]
          refine wpAnyH_take (i := 17) (oi := { dst := some _, op := _, type := _, pos := _, after := _, guard := _ }) (v := ?_) rfl (by kernel_rfl) (by kernel_rfl) (by kernel_rfl) (fun _ _ _ h => h) ?_ (by with_reducible assumption) ?_
          rotate_left 1
          focus (refine Or.inl ⟨by rfl, ?_⟩; intro wq hSw; have q0 := hSw.1; have q1 := hSw.2.1; have q2 := hSw.2.2; go_simp; try with_reducible rfl)
          try simp only [Act.put, List.setIfInBounds_toArray, List.set_cons_zero, List.set_cons_succ]
          refine wpAnyH_take (i := 18) (oi := { dst := some _, op := _, type := _, pos := _, after := _, guard := _ }) (v := ?_) rfl (by kernel_rfl) (by kernel_rfl) (by kernel_rfl) (fun _ _ _ h => h) ?_ (by with_reducible assumption) ?_
          rotate_left 1
          focus (refine Or.inl ⟨by rfl, ?_⟩; intro wq hSw; have q0 := hSw.1; have q1 := hSw.2.1; have q2 := hSw.2.2; go_simp; try with_reducible rfl)
          try simp only [Act.put, List.setIfInBounds_toArray, List.set_cons_zero, List.set_cons_succ]
          refine wpAnyH_take (i := 19) (oi := { dst := some _, op := _, type := _, pos := _, after := _, guard := _ }) (v := ?_) rfl (by kernel_rfl) (by kernel_rfl) (by kernel_rfl) (fun _ _ _ h => h) ?_ (by with_reducible assumption) ?_
          rotate_left 1
          focus (refine Or.inl ⟨by rfl, ?_⟩; intro wq hSw; have q0 := hSw.1; have q1 := hSw.2.1; have q2 := hSw.2.2; go_simp; try with_reducible rfl)
          try simp only [Act.put, List.setIfInBounds_toArray, List.set_cons_zero, List.set_cons_succ]
          refine wpAnyH_done (by kernel_rfl) ?_ _
          clear hHeld
          have HE2 := Lib.hid (deadEs_yes (le := le) (R := R) hjl HEM.out h2 (by rw [← HRJ.out, ← HMR.out]; exact h3))
          have HR2 := Lib.hid (deadR_yes (le := le) (R := R) hjl HEM.out h2 (by rw [← HRJ.out, ← HMR.out]; exact h3))
          have hev : ROwn evS B wd 81 (.slice (some ⟨g, 0, none⟩) E.length ec) EJ := HO.out.evO
          have hcx := eown_cellx hev j HJM.out HMM.out
          have z8 := hcx.c8
          have f8 := hev.frozenAt (j * 9 + 8)
          have o13 := HX.out.cell 13 _ rfl
          have hst := eown_statusx hev j HJM.out HMM.out 3
          have HST := Lib.hid hst
          clear hcx hst hev
          go_upto_region 5 with fail
          clear z8 f8 o13
          obtain ⟨w4, hw4⟩ : ∃ V, V = wd.setCell ⟨g, j * 9 + 8, none⟩ (.int .i64 3) := ⟨_, rfl⟩
          rw [← hw4] at HST ⊢
          obtain ⟨ho4, hg4⟩ := HST.out
          have hat : (evR (.slice (some ⟨g, 0, none⟩) E.length ec) EJ).At B wd := HO.out.rows.at_ _ (by simp [gRows])
          have hne3 : some kt ≠ some g := fun e => by injection e; have := HTG.out; omega
          replace HX := Lib.hid (HX.out.grown hg4 (hat.ne_box rfl HX.out rfl))
          replace HC := Lib.hid (HC.out.grown hg4 hne3)
          replace HL := Lib.hid (HL.out.grown hg4 HBW.out (fun q e => by cases e; exact hg1))
          replace HBW := Lib.hid (Nat.le_trans HBW.out hg4.size)
          replace HO := Lib.hid (HO.out.setEv hg4 ho4 (.inl rfl) (body_set HO.out.body (by have h1 := HO.out.body _ (List.getElem_mem HJM.out); rw [HMM.out] at h1; exact h1)))
          clear HST hw4 ho4 hg4 hat hne3
          obtain ⟨E4, hE4⟩ : ∃ X, X = EJ.set j (withS ⟨i, d, c, bd, at_, t, r, n, s⟩ 3) := ⟨_, rfl⟩
          rw [← hE4] at HO
          have HE4 := Lib.hid hE4
          clear hE4
          have hb := below_drew' (Below.refl w4.heap.size w4)
          replace HX := Lib.hid (HX.out.below hb)
          replace HO := Lib.hid (HO.out.below hb)
          replace HL := Lib.hid (HL.out.trans (hb.mono HBW.out))
          replace HBW := Lib.hid (Nat.le_trans HBW.out hb.size)
          replace HC := Lib.hid (HC.out.below hb)
          clear hb
          refine wp_region_held_drew (S := fun w' => w'.cell? ⟨kt, 0, none⟩ = some (.int .i64 i)) (by kernel_rfl) (HC.out.cell 0 _ rfl) (fun hHeld => ?_)
          obtain ⟨w5, hw5⟩ : ∃ x, x = w4.drew := ⟨_, rfl⟩
          rw [← hw5] at HX HO HL HBW HC hHeld ⊢
          clear hw5
          refine wpAnyH_take (i := 0) (oi := { dst := some _, op := _, type := _, pos := _, after := _, guard := _ }) (v := ?_) rfl (by kernel_rfl) (by kernel_rfl) (by kernel_rfl) (fun _ _ _ h => h) ?_ (by with_reducible assumption) ?_
          rotate_left 1
          focus (refine Or.inl ⟨by rfl, ?_⟩; intro wq hSw; have q0 := hSw; go_simp; try with_reducible rfl)
          try simp only [Act.put, List.setIfInBounds_toArray, List.set_cons_zero, List.set_cons_succ]
          refine wpAnyH_take (i := 1) (oi := { dst := some _, op := _, type := _, pos := _, after := _, guard := _ }) (v := ?_) rfl (by kernel_rfl) (by kernel_rfl) (by kernel_rfl) (fun _ _ _ h => h) ?_ (by with_reducible assumption) ?_
          rotate_left 1
          focus (refine Or.inl ⟨by rfl, ?_⟩; intro wq hSw; have q0 := hSw; go_simp; try with_reducible rfl)
          try simp only [Act.put, List.setIfInBounds_toArray, List.set_cons_zero, List.set_cons_succ]
          refine wpAnyH_take (i := 2) (oi := { dst := some _, op := _, type := _, pos := _, after := _, guard := _ }) (v := ?_) rfl (by kernel_rfl) (by kernel_rfl) (by kernel_rfl) (fun _ _ _ h => h) ?_ (by with_reducible assumption) ?_
          rotate_left 1
          focus (refine Or.inl ⟨by rfl, ?_⟩; intro wq hSw; have q0 := hSw; go_simp; try with_reducible rfl)
          try simp only [Act.put, List.setIfInBounds_toArray, List.set_cons_zero, List.set_cons_succ]
          refine wpAnyH_take (i := 3) (oi := { dst := some _, op := _, type := _, pos := _, after := _, guard := _ }) (v := ?_) rfl (by kernel_rfl) (by kernel_rfl) (by kernel_rfl) (fun _ _ _ h => h) ?_ (by with_reducible assumption) ?_
          rotate_left 1
          focus (refine Or.inl ⟨by rfl, ?_⟩; intro wq hSw; have q0 := hSw; go_simp; try with_reducible rfl)
          try simp only [Act.put, List.setIfInBounds_toArray, List.set_cons_zero, List.set_cons_succ]
          refine wpAnyH_take (i := 4) (oi := { dst := some _, op := _, type := _, pos := _, after := _, guard := _ }) (v := ?_) rfl (by kernel_rfl) (by kernel_rfl) (by kernel_rfl) (fun _ _ _ h => h) ?_ (by with_reducible assumption) ?_
          rotate_left 1
          focus (refine Or.inl ⟨by rfl, ?_⟩; intro wq hSw; have q0 := hSw; go_simp; try with_reducible rfl)
          try simp only [Act.put, List.setIfInBounds_toArray, List.set_cons_zero, List.set_cons_succ]
          refine wpAnyH_take (i := 5) (oi := { dst := some _, op := _, type := _, pos := _, after := _, guard := _ }) (v := ?_) rfl (by kernel_rfl) (by kernel_rfl) (by kernel_rfl) (fun _ _ _ h => h) ?_ (by with_reducible assumption) ?_
          rotate_left 1
          focus (refine Or.inl ⟨by rfl, ?_⟩; intro wq hSw; have q0 := hSw; go_simp; try with_reducible rfl)
          try simp only [Act.put, List.setIfInBounds_toArray, List.set_cons_zero, List.set_cons_succ]
          refine wpAnyH_take (i := 7) (oi := { dst := some _, op := _, type := _, pos := _, after := _, guard := _ }) (v := ?_) rfl (by kernel_rfl) (by kernel_rfl) (by kernel_rfl) (fun _ _ _ h => h) ?_ (by with_reducible assumption) ?_
          rotate_left 1
          focus (refine Or.inl ⟨by rfl, ?_⟩; intro wq hSw; have q0 := hSw; go_simp; try with_reducible rfl)
          try simp only [Act.put, List.setIfInBounds_toArray, List.set_cons_zero, List.set_cons_succ]
          refine wpAnyH_take (i := 8) (oi := { dst := some _, op := _, type := _, pos := _, after := _, guard := _ }) (v := ?_) rfl (by kernel_rfl) (by kernel_rfl) (by kernel_rfl) (fun _ _ _ h => h) ?_ (by with_reducible assumption) ?_
          rotate_left 1
          focus (refine Or.inl ⟨by rfl, ?_⟩; intro wq hSw; have q0 := hSw; go_simp; try with_reducible rfl)
          try simp only [Act.put, List.setIfInBounds_toArray, List.set_cons_zero, List.set_cons_succ]
          refine wpAnyH_ready (rs := [6, 9]) (by kernel_rfl) (by simp) ?_
          refine AllReadyH.cons rfl (fun KL hKL => ?_) ?_
          · have o17 := HX.out.cell 17 _ rfl
            go_simp
            refine hKL.out _ _ ((HC.out.cell 0 _ rfl)) (fun hHeld => ?_)
            clear hKL
            try simp only [Act.put, List.setIfInBounds_toArray, List.set_cons_zero, List.set_cons_succ]
            clear o17
            refine wpAnyH_ready (rs := [9]) (by kernel_rfl) (by simp) ?_
            refine AllReadyH.cons rfl (fun KB hKB => ?_) AllReadyH.nil
            go_simp
            have hb := bOne w5 (.cells #[.int .i64 i] 3)
            have HT1 := Lib.hid (ris_int w5 3 i)
            replace HX := Lib.hid (HX.out.below hb)
            replace HO := Lib.hid (HO.out.below hb)
            replace HL := Lib.hid (HL.out.trans (hb.mono HBW.out))
            replace HBW := Lib.hid (Nat.le_trans HBW.out hb.size)
            replace HC := Lib.hid (HC.out.below hb)
            clear hb hHeld
            refine hKB.out _ _ ((HC.out.cell 0 _ rfl)) (fun hHeld => ?_)
            clear hKB
            try simp only [Act.put, List.setIfInBounds_toArray, List.set_cons_zero, List.set_cons_succ]
            refine wpAnyH_ready (rs := [10]) (by kernel_rfl) (by simp) ?_
            refine AllReadyH.cons rfl (fun KP hKP => ?_) AllReadyH.nil
            have HAP := Lib.hid (app_row (T := 28) (ty := 28) (cap := 1) (len := 1) inS Try.underlying28 infoInt' inZ (by decide) (by omega) (iown_row.1 HO.out.ltO) HT1.out (flat_in_one _) (by rw [← HMR.out]; omega) HBW.out)
            refine Lnk.step_append_run rfl (.tmp 51) (.tmp 54) _ rfl (.slice raj mR rcj) (.slice (some ⟨w5.heap.size, 0, none⟩) 1 1) (by simp [Act.eval, Act.put]) (by simp [Act.eval, Act.put]) HAP.out ?_
            intro v' v3 happ
            obtain ⟨ra2, rc2, rfl⟩ := ROwn.shapeL happ.1 (mR + 1) (by rw [List.length_append, ← HMR.out]; rfl)
            have hgz := happ.2.1
            have HOn := Lib.hid (HO.out.setLt hgz (iown_row.2 happ.1) happ.2.2)
            have hkb : ∀ z, (Value.slice raj mR rcj).ownBlock = some z → B ≤ z := fun z hz => (World.ownsRow.lt HO.out.ltO z hz).1
            replace HX := Lib.hid (HX.out.grown hgz ((inR_at.2 HO.out.ltO).ne_box rfl HX.out rfl))
            replace HC := Lib.hid (HC.out.grown hgz (box_ne (inR_at.2 HO.out.ltO) HC.out ne_ie'))
            replace HL := Lib.hid (HL.out.grown hgz HBW.out (fun z hz => hkb z hz))
            replace HBW := Lib.hid (Nat.le_trans HBW.out hgz.size)
            clear happ hgz hkb hHeld HT1 HAP HO
            refine hKP.out _ _ ((HC.out.cell 0 _ rfl)) (fun hHeld => ?_)
            clear hKP
            try simp only [Act.put, List.setIfInBounds_toArray, List.set_cons_zero, List.set_cons_succ]
            refine wpAnyH_take (i := 11) (oi := { dst := some _, op := _, type := _, pos := _, after := _, guard := _ }) (v := ?_) rfl (by kernel_rfl) (by kernel_rfl) (by kernel_rfl) (fun _ _ _ h => h) ?_ (by with_reducible assumption) ?_
            rotate_left 1
            focus (refine Or.inl ⟨by rfl, ?_⟩; intro wq hSw; go_simp; try with_reducible rfl)
            try simp only [Act.put, List.setIfInBounds_toArray, List.set_cons_zero, List.set_cons_succ]
            refine wpAnyH_take (i := 12) (oi := { dst := some _, op := _, type := _, pos := _, after := _, guard := _ }) (v := ?_) rfl (by kernel_rfl) (by kernel_rfl) (by kernel_rfl) (fun _ _ _ h => h) ?_ (by with_reducible assumption) ?_
            rotate_left 1
            focus (refine Or.inl ⟨by rfl, ?_⟩; intro wq hSw; go_simp; try with_reducible rfl)
            try simp only [Act.put, List.setIfInBounds_toArray, List.set_cons_zero, List.set_cons_succ]
            refine wpAnyH_take (i := 13) (oi := { dst := some _, op := _, type := _, pos := _, after := _, guard := _ }) (v := ?_) rfl (by kernel_rfl) (by kernel_rfl) (by kernel_rfl) (fun _ _ _ h => h) ?_ (by with_reducible assumption) ?_
            rotate_left 1
            focus (refine Or.inl ⟨by rfl, ?_⟩; intro wq hSw; go_simp; try with_reducible rfl)
            try simp only [Act.put, List.setIfInBounds_toArray, List.set_cons_zero, List.set_cons_succ]
            refine wpAnyH_take (i := 14) (oi := { dst := some _, op := _, type := _, pos := _, after := _, guard := _ }) (v := ?_) rfl (by kernel_rfl) (by kernel_rfl) (by kernel_rfl) (fun _ _ _ h => h) ?_ (by with_reducible assumption) ?_
            rotate_left 1
            focus (refine Or.inl ⟨by rfl, ?_⟩; intro wq hSw; go_simp; try with_reducible rfl)
            try simp only [Act.put, List.setIfInBounds_toArray, List.set_cons_zero, List.set_cons_succ]
            refine wpAnyH_ready (rs := [15]) (by kernel_rfl) (by simp) ?_
            refine AllReadyH.cons rfl (fun KS hKS => ?_) AllReadyH.nil
            have o17 := HX.out.cell 17 _ rfl
            have g17 := HX.out.frozen 17
            go_simp
            obtain ⟨v4, hV⟩ : ∃ V, V = v3.setCell ⟨kb, 17, none⟩ (.slice ra2 (mR + 1) rc2) := ⟨_, rfl⟩
            rw [← hV]
            have hg : v3.grownBy v4 (some kb) := by rw [hV]; exact store_grown [.slice ra2 (mR + 1) rc2] 17 _
            have HXn := Lib.hid (show Box v4 kb 76 ([.int .i64 de, .int .i64 qu, .int .i64 wi, .int .i64 ti, .int .i64 qa, .int .i64 bu, .int .i64 le, .int .i64 pb, .int .i64 pc, .int .i64 pj, .int .i64 pt, .int .i64 nw, .int .i64 la, .slice (some ⟨g, 0, none⟩) E.length ec, .slice ka K.length kc, .int .i64 tu, .slice fa F.length fc, .slice ra2 (mR + 1) rc2, .int .i64 tk, .int .i64 ac, .int .i64 dr] ++ [.int .i64 dw, .slice none 0 0]) by rw [hV]; exact Box.store [.slice ra2 (mR + 1) rc2] 17 _ _ HX.out)
            replace HL := Lib.hid (HL.out.grown hg HBW.out (fun z hz => by cases hz; exact HKB.out))
            have hne : some kt ≠ some kb := fun e => by injection e; have := HTB.out; omega
            replace HC := Lib.hid (HC.out.grown hg hne)
            replace HBW := Lib.hid (Nat.le_trans HBW.out hg.size)
            have HO9 := Lib.hid (GOwn.offbox4 HOn.out HX.out rfl hg)
            clear hV hg HX o17 g17 hHeld HOn hne
            refine hKS.out _ _ ((HC.out.cell 0 _ rfl)) (fun hHeld => ?_)
            clear hKS
            try simp only [Act.put, List.setIfInBounds_toArray, List.set_cons_zero, List.set_cons_succ]
            refine wpAnyH_done (by kernel_rfl) ?_ _
            clear hHeld
            go_wp2_with fail
            go_roundw
            case rel => exact ⟨j + 1, mR + 1, ra2, rc2, E4, RJ ++ [i], by omega, by go_num, Lib.hid (by rw [HE2.out, ← HEJ.out, HE4.out]), Lib.hid (by rw [HR2.out, ← HRJ.out]), Lib.hid (by rw [List.length_append, ← HMR.out]; rfl), HXn, HO9, HL, HBW⟩
            case measure => simp [intOf]; omega
          · refine AllReadyH.cons rfl (fun KB hKB => ?_) AllReadyH.nil
            go_simp
            have hb := bOne w5 (.cells #[.int .i64 i] 3)
            have HT1 := Lib.hid (ris_int w5 3 i)
            replace HX := Lib.hid (HX.out.below hb)
            replace HO := Lib.hid (HO.out.below hb)
            replace HL := Lib.hid (HL.out.trans (hb.mono HBW.out))
            replace HBW := Lib.hid (Nat.le_trans HBW.out hb.size)
            replace HC := Lib.hid (HC.out.below hb)
            clear hb hHeld
            refine hKB.out _ _ ((HC.out.cell 0 _ rfl)) (fun hHeld => ?_)
            clear hKB
            try simp only [Act.put, List.setIfInBounds_toArray, List.set_cons_zero, List.set_cons_succ]
            refine wpAnyH_ready (rs := [6]) (by kernel_rfl) (by simp) ?_
            refine AllReadyH.cons rfl (fun KL hKL => ?_) AllReadyH.nil
            have o17 := HX.out.cell 17 _ rfl
            go_simp
            refine hKL.out _ _ ((HC.out.cell 0 _ rfl)) (fun hHeld => ?_)
            clear hKL
            try simp only [Act.put, List.setIfInBounds_toArray, List.set_cons_zero, List.set_cons_succ]
            clear o17
            refine wpAnyH_ready (rs := [10]) (by kernel_rfl) (by simp) ?_
            refine AllReadyH.cons rfl (fun KP hKP => ?_) AllReadyH.nil
            have HAP := Lib.hid (app_row (T := 28) (ty := 28) (cap := 1) (len := 1) inS Try.underlying28 infoInt' inZ (by decide) (by omega) (iown_row.1 HO.out.ltO) HT1.out (flat_in_one _) (by rw [← HMR.out]; omega) HBW.out)
            refine Lnk.step_append_run rfl (.tmp 51) (.tmp 54) _ rfl (.slice raj mR rcj) (.slice (some ⟨w5.heap.size, 0, none⟩) 1 1) (by simp [Act.eval, Act.put]) (by simp [Act.eval, Act.put]) HAP.out ?_
            intro v' v3 happ
            obtain ⟨ra2, rc2, rfl⟩ := ROwn.shapeL happ.1 (mR + 1) (by rw [List.length_append, ← HMR.out]; rfl)
            have hgz := happ.2.1
            have HOn := Lib.hid (HO.out.setLt hgz (iown_row.2 happ.1) happ.2.2)
            have hkb : ∀ z, (Value.slice raj mR rcj).ownBlock = some z → B ≤ z := fun z hz => (World.ownsRow.lt HO.out.ltO z hz).1
            replace HX := Lib.hid (HX.out.grown hgz ((inR_at.2 HO.out.ltO).ne_box rfl HX.out rfl))
            replace HC := Lib.hid (HC.out.grown hgz (box_ne (inR_at.2 HO.out.ltO) HC.out ne_ie'))
            replace HL := Lib.hid (HL.out.grown hgz HBW.out (fun z hz => hkb z hz))
            replace HBW := Lib.hid (Nat.le_trans HBW.out hgz.size)
            clear happ hgz hkb hHeld HT1 HAP HO
            refine hKP.out _ _ ((HC.out.cell 0 _ rfl)) (fun hHeld => ?_)
            clear hKP
            try simp only [Act.put, List.setIfInBounds_toArray, List.set_cons_zero, List.set_cons_succ]
            refine wpAnyH_take (i := 11) (oi := { dst := some _, op := _, type := _, pos := _, after := _, guard := _ }) (v := ?_) rfl (by kernel_rfl) (by kernel_rfl) (by kernel_rfl) (fun _ _ _ h => h) ?_ (by with_reducible assumption) ?_
            rotate_left 1
            focus (refine Or.inl ⟨by rfl, ?_⟩; intro wq hSw; go_simp; try with_reducible rfl)
            try simp only [Act.put, List.setIfInBounds_toArray, List.set_cons_zero, List.set_cons_succ]
            refine wpAnyH_take (i := 12) (oi := { dst := some _, op := _, type := _, pos := _, after := _, guard := _ }) (v := ?_) rfl (by kernel_rfl) (by kernel_rfl) (by kernel_rfl) (fun _ _ _ h => h) ?_ (by with_reducible assumption) ?_
            rotate_left 1
            focus (refine Or.inl ⟨by rfl, ?_⟩; intro wq hSw; go_simp; try with_reducible rfl)
            try simp only [Act.put, List.setIfInBounds_toArray, List.set_cons_zero, List.set_cons_succ]
            refine wpAnyH_take (i := 13) (oi := { dst := some _, op := _, type := _, pos := _, after := _, guard := _ }) (v := ?_) rfl (by kernel_rfl) (by kernel_rfl) (by kernel_rfl) (fun _ _ _ h => h) ?_ (by with_reducible assumption) ?_
            rotate_left 1
            focus (refine Or.inl ⟨by rfl, ?_⟩; intro wq hSw; go_simp; try with_reducible rfl)
            try simp only [Act.put, List.setIfInBounds_toArray, List.set_cons_zero, List.set_cons_succ]
            refine wpAnyH_take (i := 14) (oi := { dst := some _, op := _, type := _, pos := _, after := _, guard := _ }) (v := ?_) rfl (by kernel_rfl) (by kernel_rfl) (by kernel_rfl) (fun _ _ _ h => h) ?_ (by with_reducible assumption) ?_
            rotate_left 1
            focus (refine Or.inl ⟨by rfl, ?_⟩; intro wq hSw; go_simp; try with_reducible rfl)
            try simp only [Act.put, List.setIfInBounds_toArray, List.set_cons_zero, List.set_cons_succ]
            refine wpAnyH_ready (rs := [15]) (by kernel_rfl) (by simp) ?_
            refine AllReadyH.cons rfl (fun KS hKS => ?_) AllReadyH.nil
            have o17 := HX.out.cell 17 _ rfl
            have g17 := HX.out.frozen 17
            go_simp
            obtain ⟨v4, hV⟩ : ∃ V, V = v3.setCell ⟨kb, 17, none⟩ (.slice ra2 (mR + 1) rc2) := ⟨_, rfl⟩
            rw [← hV]
            have hg : v3.grownBy v4 (some kb) := by rw [hV]; exact store_grown [.slice ra2 (mR + 1) rc2] 17 _
            have HXn := Lib.hid (show Box v4 kb 76 ([.int .i64 de, .int .i64 qu, .int .i64 wi, .int .i64 ti, .int .i64 qa, .int .i64 bu, .int .i64 le, .int .i64 pb, .int .i64 pc, .int .i64 pj, .int .i64 pt, .int .i64 nw, .int .i64 la, .slice (some ⟨g, 0, none⟩) E.length ec, .slice ka K.length kc, .int .i64 tu, .slice fa F.length fc, .slice ra2 (mR + 1) rc2, .int .i64 tk, .int .i64 ac, .int .i64 dr] ++ [.int .i64 dw, .slice none 0 0]) by rw [hV]; exact Box.store [.slice ra2 (mR + 1) rc2] 17 _ _ HX.out)
            replace HL := Lib.hid (HL.out.grown hg HBW.out (fun z hz => by cases hz; exact HKB.out))
            have hne : some kt ≠ some kb := fun e => by injection e; have := HTB.out; omega
            replace HC := Lib.hid (HC.out.grown hg hne)
            replace HBW := Lib.hid (Nat.le_trans HBW.out hg.size)
            have HO9 := Lib.hid (GOwn.offbox4 HOn.out HX.out rfl hg)
            clear hV hg HX o17 g17 hHeld HOn hne
            refine hKS.out _ _ ((HC.out.cell 0 _ rfl)) (fun hHeld => ?_)
            clear hKS
            try simp only [Act.put, List.setIfInBounds_toArray, List.set_cons_zero, List.set_cons_succ]
            refine wpAnyH_done (by kernel_rfl) ?_ _
            clear hHeld
            go_wp2_with fail
            go_roundw
            case rel => exact ⟨j + 1, mR + 1, ra2, rc2, E4, RJ ++ [i], by omega, by go_num, Lib.hid (by rw [HE2.out, ← HEJ.out, HE4.out]), Lib.hid (by rw [HR2.out, ← HRJ.out]), Lib.hid (by rw [List.length_append, ← HMR.out]; rfl), HXn, HO9, HL, HBW⟩
            case measure => simp [intOf]; omega

    · obtain rfl : j = E.length := by omega
      have hmr : mR = (deadR le E R E.length).length := by rw [HMR.out, HRJ.out]
      subst hmr
      have HFO := Lib.hid (show GOwn B wr (.slice ea E.length ec) (.slice ka K.length kc) (.slice fa F.length fc) (.slice raj (deadR le E R E.length).length rcj) vs (deadEs le E R E.length) K F (deadR le E R E.length) by have h1 := HO.out; rw [HEJ.out, HRJ.out] at h1; exact h1)
      clear HO hlt hj
      go_wp2_with fail
      exact bodyPost_end (v := .tuple #[]) (by simp [results, Try.results62]) rfl ⟨raj, rcj, rfl, HX.out, HFO.out, HL.out⟩

end Go.Proofs.Ytlcllbdalabciaa.Gat
