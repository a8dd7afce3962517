/-
  Events of a right gate: the walk of the specification.
  A right gate: the walk of the specification's GateOk.
-/
import Derived.Test.YtkndpkingmemoaaDoorMgh
namespace Go.Proofs.YtkndpkingmemoaaDoor.Gat
open Go.RowKit
open Lnk (bOne bAfter IOwn IIs below_keep below_drew' low_after low_alloc lokB LOk idsL)
set_option linter.unusedVariables false

/-- the ids that fly over a device's link -/
def overL (K : List Lk) (d : Int) : List Int := idsL ((K.getD (d - 1).toNat lk0).l)
def seGood (de la nw p : Int) (K : List Lk) (R : List Int) (e : Ev) : Prop :=
  EvGood de la nw p e ∧ (e.s == 1) = hasB (overL K e.d) e.i ∧ (e.s == 3) = hasB R e.i
def seP (en : Nat) (de la nw : Int) (E : List Ev) (K : List Lk) (R : List Int) : Prop :=
  en ≤ 60 ∧ ∀ k, (h : k < E.length) → seGood de la nw (ahead E k) K R E[k]

set_option maxRecDepth 100000 in
set_option maxHeartbeats 8000000 in
theorem specEvents_any (w : World) (de qu wi ti qa bu le pb pc pj pt nw la : Int) (ea : Option Addr) (en ec : Nat) (ka : Option Addr) (kn kc : Nat) (tu : Int) (fa : Option Addr) (fn fc : Nat) (ra : Option Addr) (rn rc : Nat) (tk ac dr : Int) (E : List Ev) (K : List Lk) (F R : List Int) (hkd : (kn : Int) = de) (hkl : ∀ k ∈ K, k.l.length ≤ 1000) (h : GIs w.heap.size w ea en ka kn fa fn ra rn E K F R) :
    Calls Tryd.prog 66 #[.agg #[.int .i64 de, .int .i64 qu, .int .i64 wi, .int .i64 ti, .int .i64 qa, .int .i64 bu, .int .i64 le, .int .i64 pb, .int .i64 pc, .int .i64 pj, .int .i64 pt, .int .i64 nw, .int .i64 la, .slice ea en ec, .slice ka kn kc, .int .i64 tu, .slice fa fn fc, .slice ra rn rc, .int .i64 tk, .int .i64 ac, .int .i64 dr]] w fun e w' => BEnd w w' (seP en de la nw E K R) e := by
  obtain ⟨W0, hW0⟩ : ∃ W, W = w.alloc (.cells #[.int .i64 de, .int .i64 qu, .int .i64 wi, .int .i64 ti, .int .i64 qa, .int .i64 bu, .int .i64 le, .int .i64 pb, .int .i64 pc, .int .i64 pj, .int .i64 pt, .int .i64 nw, .int .i64 la, .slice ea en ec, .slice ka kn kc, .int .i64 tu, .slice fa fn fc, .slice ra rn rc, .int .i64 tk, .int .i64 ac, .int .i64 dr] 33) := ⟨_, rfl⟩
  have HA : Hid (Box W0 w.heap.size 33 [.int .i64 de, .int .i64 qu, .int .i64 wi, .int .i64 ti, .int .i64 qa, .int .i64 bu, .int .i64 le, .int .i64 pb, .int .i64 pc, .int .i64 pj, .int .i64 pt, .int .i64 nw, .int .i64 la, .slice ea en ec, .slice ka kn kc, .int .i64 tu, .slice fa fn fc, .slice ra rn rc, .int .i64 tk, .int .i64 ac, .int .i64 dr]) := Lib.hid (by rw [hW0]; exact Box.new w [.int .i64 de, .int .i64 qu, .int .i64 wi, .int .i64 ti, .int .i64 qa, .int .i64 bu, .int .i64 le, .int .i64 pb, .int .i64 pc, .int .i64 pj, .int .i64 pt, .int .i64 nw, .int .i64 la, .slice ea en ec, .slice ka kn kc, .int .i64 tu, .slice fa fn fc, .slice ra rn rc, .int .i64 tk, .int .i64 ac, .int .i64 dr] 33)
  have HL : Hid (Below w.heap.size w W0) := Lib.hid (by rw [hW0]; exact bOne _ _)
  have HWE := Lib.hid hW0
  have HT00 := Lib.hid h
  have HN := Lib.hid h.ev.row.hlen
  have HKN := Lib.hid h.lk.hlen
  have HKD := Lib.hid hkd
  have HKL := Lib.hid hkl
  clear h hW0 hkd hkl
  go_enter Tryd.func66, Tryd.ntmps66
  go_upto_region 3 with fail
  rw [← HWE.out]
  clear HWE
  go_loopw [3, 4] (fun lv i wr => ∃ j : Nat, j ≤ en ∧ j ≤ 61 ∧ i = .int .i64 j ∧ lv = .int .i64 (ahead E j) ∧ Hid (∀ k, (h : k < E.length) → k < j → seGood de la nw (ahead E k) K R E[k]) ∧ Hid (Below w.heap.size w wr) ∧ Hid (Box wr w.heap.size 33 [.int .i64 de, .int .i64 qu, .int .i64 wi, .int .i64 ti, .int .i64 qa, .int .i64 bu, .int .i64 le, .int .i64 pb, .int .i64 pc, .int .i64 pj, .int .i64 pt, .int .i64 nw, .int .i64 la, .slice ea en ec, .slice ka kn kc, .int .i64 tu, .slice fa fn fc, .slice ra rn rc, .int .i64 tk, .int .i64 ac, .int .i64 dr])) (fun _ i _ => 61 - (intOf i).toNat)
  case atStart => exact ⟨0, by omega, by omega, rfl, rfl, Lib.hid (fun k _ hk => by omega), HL, HA⟩
  case round =>
    obtain ⟨j, hj, hj61, rfl, rfl, HG, HB, HX⟩ := hrel
    have c13 := HX.out.cell 13 _ rfl
    by_cases hlt : (j : Int) < (en : Int)
    rotate_left
    · have HYY : Hid ((en ≤ 60) → (seP en de la nw E K R)) := Lib.hid (fun he => ⟨he, fun k hk => HG.out k hk (by have := HN.out; omega)⟩)
      by_cases he : (en : Int) ≤ 60
      · have HY := Lib.hid (HYY.out (by omega))
        go_wp2_with fail
        go_ret
        exact bend_yes HY.out HB.out
      · have HNP := Lib.hid (show ¬ (seP en de la nw E K R) from fun h => by have := h.1; omega)
        go_wp2_with fail
        go_ret
        exact bend_no HNP.out HB.out
    by_cases hj60 : (j : Int) ≤ 60
    rotate_left
    · have he : ¬ (en : Int) ≤ 60 := by omega
      have HNP := Lib.hid (show ¬ (seP en de la nw E K R) from fun h => by have := h.1; omega)
      go_wp2_with fail
      go_ret
      exact bend_no HNP.out HB.out
    have hjl : j < E.length := by have := HN.out; omega
    have HT1 := Lib.hid (HT00.out.here HB.out)
    obtain ⟨b', off, i', d', c', bd', a', t', r', n', s', rfl, hb', hlj, hbd', x0, x1, x2, x3, x4, x5, x6, x7, x8⟩ := HT1.out.ev.at j hjl
    have HJ := Lib.hid hlj
    have HBD := Lib.hid hbd'
    have HAH := Lib.hid (ahead_next hjl)
    obtain ⟨p, hp⟩ : ∃ p, p = ahead E j := ⟨_, rfl⟩
    rw [← hp]
    have HP := Lib.hid hp
    have HNO := Lib.hid (show ¬ seGood de la nw p K R ⟨i', d', c', bd', a', t', r', n', s'⟩ → ¬ (seP en de la nw E K R) from fun hn h => hn (by have := h.2 j hjl; rwa [hlj, ← hp] at this))
    clear hlj hb' hbd' hp
    obtain ⟨W2, hW2⟩ : ∃ W, W = wr.alloc (.cells #[.int .i64 i', .int .i64 d', .int .i64 c', .string bd', .int .i64 a', .int .i64 t', .int .i64 r', .int .i64 n', .int .i64 s'] 55) := ⟨_, rfl⟩
    have hb2 : Below wr.heap.size wr W2 := by rw [hW2]; exact bOne _ _
    have HEX := Lib.hid (show Box W2 wr.heap.size 55 [.int .i64 i', .int .i64 d', .int .i64 c', .string bd', .int .i64 a', .int .i64 t', .int .i64 r', .int .i64 n', .int .i64 s'] by rw [hW2]; exact Box.new wr [.int .i64 i', .int .i64 d', .int .i64 c', .string bd', .int .i64 a', .int .i64 t', .int .i64 r', .int .i64 n', .int .i64 s'] 55)
    have HX2 := Lib.hid (HX.out.below hb2)
    have HL2 := Lib.hid (low_after HB.out hb2)
    have HT2 := Lib.hid (HT1.out.here hb2)
    have HWE2 := Lib.hid hW2
    clear hb2 hW2 HT1
    go_upto_region 6 with fail
    rw [← HWE2.out]
    clear HWE2 x0 x1 x2 x3 x4 x5 x6 x7 x8 c13
    obtain ⟨lb, hlb⟩ : ∃ k, k = wr.heap.size := ⟨_, rfl⟩
    rw [← hlb] at HEX ⊢
    clear hlb
    have x0 := HEX.out.cell 0 _ rfl
    have x1 := HEX.out.cell 1 _ rfl
    have x2 := HEX.out.cell 2 _ rfl
    have x3 := HEX.out.cell 3 _ rfl
    have x4 := HEX.out.cell 4 _ rfl
    have x5 := HEX.out.cell 5 _ rfl
    have x6 := HEX.out.cell 6 _ rfl
    have x7 := HEX.out.cell 7 _ rfl
    have x8 := HEX.out.cell 8 _ rfl
    go_wp2_with fail
    refine (Evt.specOk_any i' d' c' bd' a' t' r' n' s' _ HBD.out).mono ?_
    rintro e w2 ⟨rfl, hb⟩
    have HLF := Lib.hid (low_after HL2.out hb)
    have HX3 := Lib.hid (HX2.out.below hb)
    have HEX3 := Lib.hid (HEX.out.below hb)
    have HT := Lib.hid (HT2.out.here hb)
    clear hb x0 x1 x2 x3 x4 x5 x6 x7 x8 HX2 HEX HT2 HL2
    have x0 := HEX3.out.cell 0 _ rfl
    have x1 := HEX3.out.cell 1 _ rfl
    have x4 := HEX3.out.cell 4 _ rfl
    have c0 := HX3.out.cell 0 _ rfl
    have c11 := HX3.out.cell 11 _ rfl
    have c12 := HX3.out.cell 12 _ rfl
    cases hok : Evt.eokB i' d' c' bd'.size a' t' r' n' s' with
    | false =>
      have HNP := Lib.hid (HNO.out (fun h => by have h1 : Evt.eokB i' d' c' bd'.size a' t' r' n' s' = true := Evt.eokB_yes h.1.1; rw [hok] at h1; cases h1))
      clear hok
      go_wp2_with fail
      go_ret
      exact bend_no HNP.out HLF.out
    | true =>
    have HOK := Lib.hid (show Evt.EOk i' d' c' bd'.size a' t' r' n' s' from of_decide_eq_true hok)
    clear hok
    by_cases g0 : i' ≤ p
    · have HNP := Lib.hid (HNO.out (fun h => by have h1 := h.1.2; dsimp only at h1; omega))
      go_wp2_with fail
      go_ret
      exact bend_no HNP.out HLF.out
    by_cases g1 : la < i'
    · have HNP := Lib.hid (HNO.out (fun h => by have h1 := h.1.2; dsimp only at h1; omega))
      go_wp2_with fail
      go_ret
      exact bend_no HNP.out HLF.out
    by_cases g2 : de < d'
    · have HNP := Lib.hid (HNO.out (fun h => by have h1 := h.1.2; dsimp only at h1; omega))
      go_wp2_with fail
      go_ret
      exact bend_no HNP.out HLF.out
    by_cases g3 : nw < a'
    · have HNP := Lib.hid (HNO.out (fun h => by have h1 := h.1.2; dsimp only at h1; omega))
      go_wp2_with fail
      go_ret
      exact bend_no HNP.out HLF.out
    obtain ⟨dn, rfl⟩ : ∃ dn : Nat, d' = (dn : Int) + 1 := ⟨(d' - 1).toNat, by have := HOK.out; unfold Evt.EOk at this; omega⟩
    have hdn : dn < K.length := by have := HKN.out; have := HKD.out; omega
    have hdk : (dn : Int) < (kn : Int) := by have := HKN.out; omega
    have hwd : IntKind.i64.wrap ((dn : Int) + 1 - 1) = (dn : Int) := by rw [show (dn : Int) + 1 - 1 = (dn : Int) by omega]; exact IntWalk.i64_in _ (by have := HOK.out; unfold Evt.EOk at this; omega)
    have hwd2 : IntKind.i64.wrap (dn : Int) = (dn : Int) := IntWalk.i64_in _ (by have := HOK.out; unfold Evt.EOk at this; omega)
    have HGE := Lib.hid (show EvGood de la nw p ⟨i', (dn : Int) + 1, c', bd', a', t', r', n', s'⟩ from ⟨HOK.out, by dsimp only; omega, by dsimp only; omega, by dsimp only; omega, by dsimp only; omega⟩)
    obtain ⟨kb, ko, up, ep, sq, y, fa1, fl, fc1, rfl, hkb, hlk, hy, p0, p1, p2, p3⟩ := HT.out.lk.at dn hdn
    have HOV := Lib.hid (show overL K ((dn : Int) + 1) = idsL y by
      unfold overL
      rw [show ((dn : Int) + 1 - 1).toNat = dn by omega, List.getD_eq_getElem?_getD, List.getElem?_eq_getElem hdn, hlk]
      rfl)
    have HYL := Lib.hid hy.hlen
    have HYM := Lib.hid (show fl ≤ 1000 by have h1 := HKL.out K[dn] (List.getElem_mem _); rw [hlk] at h1; have := hy.hlen; dsimp only at h1; omega)
    have HY := Lib.hid hy
    have hS := And.intro p0 (And.intro p1 (And.intro p2 p3))
    have HK4 := Lib.hid hS
    clear hlk hy hkb p0 p1 p2 p3 hS
    go_upto_region 8 with fail
    clear x0 x1 x4 c0 c11 c12
    have HQ := Lib.hid (show Below w2.heap.size w2 w2.drew from below_drew' (Below.refl _ _))
    refine wp_region_held_drew (S := fun w' => Box w' w.heap.size 33 [.int .i64 de, .int .i64 qu, .int .i64 wi, .int .i64 ti, .int .i64 qa, .int .i64 bu, .int .i64 le, .int .i64 pb, .int .i64 pc, .int .i64 pj, .int .i64 pt, .int .i64 nw, .int .i64 la, .slice (some ⟨b', off, none⟩) en ec, .slice (some ⟨kb, ko, none⟩) kn kc, .int .i64 tu, .slice fa fn fc, .slice ra rn rc, .int .i64 tk, .int .i64 ac, .int .i64 dr] ∧ Box w' lb 55 [.int .i64 i', .int .i64 ((dn : Int) + 1), .int .i64 c', .string bd', .int .i64 a', .int .i64 t', .int .i64 r', .int .i64 n', .int .i64 s'] ∧ w'.cell? ⟨kb, ko + dn * 4, none⟩ = some (.bool up) ∧ w'.cell? ⟨kb, ko + dn * 4 + 1, none⟩ = some (.int .i64 ep) ∧ w'.cell? ⟨kb, ko + dn * 4 + 2, none⟩ = some (.int .i64 sq) ∧ w'.cell? ⟨kb, ko + dn * 4 + 3, none⟩ = some (.slice fa1 fl fc1)) (by kernel_rfl) ⟨HX3.out.below HQ.out, HEX3.out.below HQ.out, (HQ.out.cell (p := ⟨kb, ko + dn * 4, none⟩) (World.block_lt_of_cell? _ _ HK4.out.1)).trans HK4.out.1, (HQ.out.cell (p := ⟨kb, ko + dn * 4 + 1, none⟩) (World.block_lt_of_cell? _ _ HK4.out.2.1)).trans HK4.out.2.1, (HQ.out.cell (p := ⟨kb, ko + dn * 4 + 2, none⟩) (World.block_lt_of_cell? _ _ HK4.out.2.2.1)).trans HK4.out.2.2.1, (HQ.out.cell (p := ⟨kb, ko + dn * 4 + 3, none⟩) (World.block_lt_of_cell? _ _ HK4.out.2.2.2)).trans HK4.out.2.2.2⟩ (fun hHeld => ?_)
    refine wpAnyH_take (i := 0) (oi := { dst := some _, op := _, type := _, pos := _, after := _, guard := _ }) (v := ?_) rfl (by kernel_rfl) (by kernel_rfl) (by kernel_rfl) (fun _ _ _ h => h) ?_ (by with_reducible assumption) ?_
    rotate_left 1
    focus (refine Or.inl ⟨by rfl, ?_⟩; intro wq hSw; go_simp; try with_reducible rfl)
    try simp only [Act.put, List.setIfInBounds_toArray, List.set_cons_zero, List.set_cons_succ]
    refine wpAnyH_take (i := 1) (oi := { dst := some _, op := _, type := _, pos := _, after := _, guard := _ }) (v := ?_) rfl (by kernel_rfl) (by kernel_rfl) (by kernel_rfl) (fun _ _ _ h => h) ?_ (by with_reducible assumption) ?_
    rotate_left 1
    focus (refine Or.inl ⟨by rfl, ?_⟩; intro wq hSw; have y8 := hSw.2.1.cell 8 _ rfl; go_simp; try with_reducible rfl)
    try simp only [Act.put, List.setIfInBounds_toArray, List.set_cons_zero, List.set_cons_succ]
    refine wpAnyH_take (i := 2) (oi := { dst := some _, op := _, type := _, pos := _, after := _, guard := _ }) (v := ?_) rfl (by kernel_rfl) (by kernel_rfl) (by kernel_rfl) (fun _ _ _ h => h) ?_ (by with_reducible assumption) ?_
    rotate_left 1
    focus (refine Or.inl ⟨by rfl, ?_⟩; intro wq hSw; go_simp; try with_reducible rfl)
    try simp only [Act.put, List.setIfInBounds_toArray, List.set_cons_zero, List.set_cons_succ]
    refine wpAnyH_take (i := 3) (oi := { dst := some _, op := _, type := _, pos := _, after := _, guard := _ }) (v := ?_) rfl (by kernel_rfl) (by kernel_rfl) (by kernel_rfl) (fun _ _ _ h => h) ?_ (by with_reducible assumption) ?_
    rotate_left 1
    focus (refine Or.inl ⟨by rfl, ?_⟩; intro wq hSw; go_simp; try with_reducible rfl)
    try simp only [Act.put, List.setIfInBounds_toArray, List.set_cons_zero, List.set_cons_succ]
    refine wpAnyH_take (i := 4) (oi := { dst := some _, op := _, type := _, pos := _, after := _, guard := _ }) (v := ?_) rfl (by kernel_rfl) (by kernel_rfl) (by kernel_rfl) (fun _ _ _ h => h) ?_ (by with_reducible assumption) ?_
    rotate_left 1
    focus (refine Or.inl ⟨by rfl, ?_⟩; intro wq hSw; have d14 := hSw.1.cell 14 _ rfl; go_simp; try with_reducible rfl)
    try simp only [Act.put, List.setIfInBounds_toArray, List.set_cons_zero, List.set_cons_succ]
    refine wpAnyH_take (i := 5) (oi := { dst := some _, op := _, type := _, pos := _, after := _, guard := _ }) (v := ?_) rfl (by kernel_rfl) (by kernel_rfl) (by kernel_rfl) (fun _ _ _ h => h) ?_ (by with_reducible assumption) ?_
    rotate_left 1
    focus (refine Or.inl ⟨by rfl, ?_⟩; intro wq hSw; go_simp; try with_reducible rfl)
    try simp only [Act.put, List.setIfInBounds_toArray, List.set_cons_zero, List.set_cons_succ]
    refine wpAnyH_take (i := 6) (oi := { dst := some _, op := _, type := _, pos := _, after := _, guard := _ }) (v := ?_) rfl (by kernel_rfl) (by kernel_rfl) (by kernel_rfl) (fun _ _ _ h => h) ?_ (by with_reducible assumption) ?_
    rotate_left 1
    focus (refine Or.inl ⟨by rfl, ?_⟩; intro wq hSw; have y1 := hSw.2.1.cell 1 _ rfl; go_simp; try with_reducible rfl)
    try simp only [Act.put, List.setIfInBounds_toArray, List.set_cons_zero, List.set_cons_succ]
    refine wpAnyH_take (i := 7) (oi := { dst := some _, op := _, type := _, pos := _, after := _, guard := _ }) (v := ?_) rfl (by kernel_rfl) (by kernel_rfl) (by kernel_rfl) (fun _ _ _ h => h) ?_ (by with_reducible assumption) ?_
    rotate_left 1
    focus (refine Or.inl ⟨by rfl, ?_⟩; intro wq hSw; go_simp; try with_reducible rfl)
    try simp only [Act.put, List.setIfInBounds_toArray, List.set_cons_zero, List.set_cons_succ]
    refine wpAnyH_take (i := 8) (oi := { dst := some _, op := _, type := _, pos := _, after := _, guard := _ }) (v := ?_) rfl (by kernel_rfl) (by kernel_rfl) (by kernel_rfl) (fun _ _ _ h => h) ?_ (by with_reducible assumption) ?_
    rotate_left 1
    focus (refine Or.inl ⟨by rfl, ?_⟩; intro wq hSw; go_simp; try with_reducible rfl)
    try simp only [Act.put, List.setIfInBounds_toArray, List.set_cons_zero, List.set_cons_succ]
    refine wpAnyH_take (i := 9) (oi := { dst := some _, op := _, type := _, pos := _, after := _, guard := _ }) (v := ?_) rfl (by kernel_rfl) (by kernel_rfl) (by kernel_rfl) (fun _ _ _ h => h) ?_ (by with_reducible assumption) ?_
    rotate_left 1
    focus (refine Or.inl ⟨by rfl, ?_⟩; intro wq hSw; have z0 := hSw.2.2.1; have z1 := hSw.2.2.2.1; have z2 := hSw.2.2.2.2.1; have z3 := hSw.2.2.2.2.2; go_simp; try with_reducible rfl)
    try simp only [Act.put, List.setIfInBounds_toArray, List.set_cons_zero, List.set_cons_succ]
    refine wpAnyH_take (i := 11) (oi := { dst := some _, op := _, type := _, pos := _, after := _, guard := _ }) (v := ?_) rfl (by kernel_rfl) (by kernel_rfl) (by kernel_rfl) (fun _ _ _ h => h) ?_ (by with_reducible assumption) ?_
    rotate_left 1
    focus (refine Or.inl ⟨by rfl, ?_⟩; intro wq hSw; go_simp; try with_reducible rfl)
    try simp only [Act.put, List.setIfInBounds_toArray, List.set_cons_zero, List.set_cons_succ]
    refine wpAnyH_take (i := 12) (oi := { dst := some _, op := _, type := _, pos := _, after := _, guard := _ }) (v := ?_) rfl (by kernel_rfl) (by kernel_rfl) (by kernel_rfl) (fun _ _ _ h => h) ?_ (by with_reducible assumption) ?_
    rotate_left 1
    focus (refine Or.inl ⟨by rfl, ?_⟩; intro wq hSw; have y0 := hSw.2.1.cell 0 _ rfl; go_simp; try with_reducible rfl)
    try simp only [Act.put, List.setIfInBounds_toArray, List.set_cons_zero, List.set_cons_succ]
    refine wpAnyH_ready (rs := [10]) (by kernel_rfl) (by simp) ?_
    refine AllReadyH.cons rfl (fun KA hKA => ?_) AllReadyH.nil
    go_simp
    refine (Lnk.specIds_any _ fa1 fl fc1 up ep sq y ((HY.out.below HQ.out).mono HQ.out.size) (by have := HYM.out; omega)).mono ?_
    rintro e v1 ⟨⟨xa, xc, rfl, hx⟩, hb⟩
    have HS1 := Lib.hid (And.intro (hHeld.1.below hb) (And.intro (hHeld.2.1.below hb) (And.intro ((hb.cell (p := ⟨kb, ko + dn * 4, none⟩) (World.block_lt_of_cell? _ _ hHeld.2.2.1)).trans hHeld.2.2.1) (And.intro ((hb.cell (p := ⟨kb, ko + dn * 4 + 1, none⟩) (World.block_lt_of_cell? _ _ hHeld.2.2.2.1)).trans hHeld.2.2.2.1) (And.intro ((hb.cell (p := ⟨kb, ko + dn * 4 + 2, none⟩) (World.block_lt_of_cell? _ _ hHeld.2.2.2.2.1)).trans hHeld.2.2.2.2.1) ((hb.cell (p := ⟨kb, ko + dn * 4 + 3, none⟩) (World.block_lt_of_cell? _ _ hHeld.2.2.2.2.2)).trans hHeld.2.2.2.2.2))))))
    replace HQ := Lib.hid (low_after HQ.out hb)
    have HXI := Lib.hid (Lnk.IOwn.isN hx)
    obtain ⟨xn, hxn⟩ : ∃ n, n = (idsL y).length := ⟨_, rfl⟩
    rw [← hxn] at HXI ⊢
    have HXM := Lib.hid (show xn ≤ maxLen by rw [hxn]; unfold idsL maxLen; rw [List.length_map]; have := HYM.out; have := HYL.out; omega)
    clear hb hHeld hx hxn
    dsimp only
    refine hKA.out _ _ (HS1.out) (fun hHeld => ?_)
    clear hKA
    try simp only [Act.put, List.setIfInBounds_toArray, List.set_cons_zero, List.set_cons_succ]
    refine wpAnyH_ready (rs := [13]) (by kernel_rfl) (by simp) ?_
    refine AllReadyH.cons rfl (fun KB hKB => ?_) AllReadyH.nil
    go_simp
    refine (has_any _ xa xn xc (idsL y) i' HXI.out HXM.out).mono ?_
    rintro e v2 ⟨rfl, hb⟩
    subst hb
    dsimp only
    obtain ⟨h1, hh1⟩ : ∃ x, x = hasB (idsL y) i' := ⟨_, rfl⟩
    rw [← hh1]
    have HH1 := Lib.hid hh1
    clear hh1
    refine hKB.out _ _ (HS1.out) (fun hHeld => ?_)
    clear hKB
    try simp only [Act.put, List.setIfInBounds_toArray, List.set_cons_zero, List.set_cons_succ]
    obtain ⟨q1, hq1⟩ : ∃ q, q = (s' == 1) := ⟨_, rfl⟩
    rw [← hq1]
    have HQ1 := Lib.hid hq1
    clear hq1
    rcases (show q1 = !h1 ∨ q1 = h1 by cases q1 <;> cases h1 <;> simp) with rfl | rfl
    · have HNP := Lib.hid (show ¬ (seP en de la nw E K R) from HNO.out (fun h => by have h2 := h.2.1; dsimp only at h2; rw [HOV.out, ← HQ1.out, ← HH1.out] at h2; simp at h2))
      refine wpAnyH_take (i := 14) (oi := { dst := some _, op := _, type := _, pos := _, after := _, guard := _ }) (v := ?_) rfl (by kernel_rfl) (by kernel_rfl) (by kernel_rfl) (fun _ _ _ h => h) ?_ (by with_reducible assumption) ?_
      rotate_left 1
      focus (refine Or.inl ⟨by rfl, ?_⟩; intro wq hSw; go_simp; try with_reducible rfl)
      try simp only [Act.put, List.setIfInBounds_toArray, List.set_cons_zero, List.set_cons_succ]
      refine wpAnyH_take (i := 15) (oi := { dst := some _, op := _, type := _, pos := _, after := _, guard := _ }) (v := ?_) rfl (by kernel_rfl) (by kernel_rfl) (by kernel_rfl) (fun _ _ _ h => h) ?_ (by with_reducible assumption) ?_
      rotate_left 1
      focus (refine Or.inl ⟨by rfl, ?_⟩; intro wq hSw; go_simp; try with_reducible rfl)
      try simp only [Act.put, List.setIfInBounds_toArray, List.set_cons_zero, List.set_cons_succ]
      refine wpAnyH_take (i := 16) (oi := { dst := some _, op := _, type := _, pos := _, after := _, guard := _ }) (v := undef) rfl (by kernel_rfl) (by kernel_rfl) (by kernel_rfl) (fun _ _ _ h => h) ?_ (by with_reducible assumption) ?_
      focus (exact Or.inr ⟨by rfl, rfl⟩)
      try simp only [Act.put, List.setIfInBounds_toArray, List.set_cons_zero, List.set_cons_succ]
      refine wpAnyH_take (i := 17) (oi := { dst := some _, op := _, type := _, pos := _, after := _, guard := _ }) (v := undef) rfl (by kernel_rfl) (by kernel_rfl) (by kernel_rfl) (fun _ _ _ h => h) ?_ (by with_reducible assumption) ?_
      focus (exact Or.inr ⟨by rfl, rfl⟩)
      try simp only [Act.put, List.setIfInBounds_toArray, List.set_cons_zero, List.set_cons_succ]
      refine wpAnyH_take (i := 18) (oi := { dst := some _, op := _, type := _, pos := _, after := _, guard := _ }) (v := undef) rfl (by kernel_rfl) (by kernel_rfl) (by kernel_rfl) (fun _ _ _ h => h) ?_ (by with_reducible assumption) ?_
      focus (exact Or.inr ⟨by rfl, rfl⟩)
      try simp only [Act.put, List.setIfInBounds_toArray, List.set_cons_zero, List.set_cons_succ]
      refine wpAnyH_take (i := 19) (oi := { dst := some _, op := _, type := _, pos := _, after := _, guard := _ }) (v := undef) rfl (by kernel_rfl) (by kernel_rfl) (by kernel_rfl) (fun _ _ _ h => h) ?_ (by with_reducible assumption) ?_
      focus (exact Or.inr ⟨by rfl, rfl⟩)
      try simp only [Act.put, List.setIfInBounds_toArray, List.set_cons_zero, List.set_cons_succ]
      refine wpAnyH_take (i := 20) (oi := { dst := some _, op := _, type := _, pos := _, after := _, guard := _ }) (v := undef) rfl (by kernel_rfl) (by kernel_rfl) (by kernel_rfl) (fun _ _ _ h => h) ?_ (by with_reducible assumption) ?_
      focus (exact Or.inr ⟨by rfl, rfl⟩)
      try simp only [Act.put, List.setIfInBounds_toArray, List.set_cons_zero, List.set_cons_succ]
      refine wpAnyH_take (i := 21) (oi := { dst := some _, op := _, type := _, pos := _, after := _, guard := _ }) (v := undef) rfl (by kernel_rfl) (by kernel_rfl) (by kernel_rfl) (fun _ _ _ h => h) ?_ (by with_reducible assumption) ?_
      focus (exact Or.inr ⟨by rfl, rfl⟩)
      try simp only [Act.put, List.setIfInBounds_toArray, List.set_cons_zero, List.set_cons_succ]
      refine wpAnyH_take (i := 22) (oi := { dst := some _, op := _, type := _, pos := _, after := _, guard := _ }) (v := undef) rfl (by kernel_rfl) (by kernel_rfl) (by kernel_rfl) (fun _ _ _ h => h) ?_ (by with_reducible assumption) ?_
      focus (exact Or.inr ⟨by rfl, rfl⟩)
      try simp only [Act.put, List.setIfInBounds_toArray, List.set_cons_zero, List.set_cons_succ]
      refine wpAnyH_take (i := 23) (oi := { dst := some _, op := _, type := _, pos := _, after := _, guard := _ }) (v := undef) rfl (by kernel_rfl) (by kernel_rfl) (by kernel_rfl) (fun _ _ _ h => h) ?_ (by with_reducible assumption) ?_
      focus (exact Or.inr ⟨by rfl, rfl⟩)
      try simp only [Act.put, List.setIfInBounds_toArray, List.set_cons_zero, List.set_cons_succ]
      refine wpAnyH_take (i := 24) (oi := { dst := some _, op := _, type := _, pos := _, after := _, guard := _ }) (v := undef) rfl (by kernel_rfl) (by kernel_rfl) (by kernel_rfl) (fun _ _ _ h => h) ?_ (by with_reducible assumption) ?_
      focus (exact Or.inr ⟨by rfl, rfl⟩)
      try simp only [Act.put, List.setIfInBounds_toArray, List.set_cons_zero, List.set_cons_succ]
      refine wpAnyH_take (i := 25) (oi := { dst := some _, op := _, type := _, pos := _, after := _, guard := _ }) (v := ?_) rfl (by kernel_rfl) (by kernel_rfl) (by kernel_rfl) (fun _ _ _ h => h) ?_ (by with_reducible assumption) ?_
      rotate_left 1
      focus (refine Or.inl ⟨by rfl, ?_⟩; intro wq hSw; go_simp; try with_reducible rfl)
      try simp only [Act.put, List.setIfInBounds_toArray, List.set_cons_zero, List.set_cons_succ]
      refine wpAnyH_done (by kernel_rfl) ?_ _
      go_wp2_with fail
      go_ret
      exact bend_no HNP.out (low_after HLF.out HQ.out)
    have HE1 := Lib.hid (show (s' == 1) = hasB (idsL y) i' by rw [← HQ1.out, ← HH1.out])
    clear HQ1 HH1
    refine wpAnyH_take (i := 14) (oi := { dst := some _, op := _, type := _, pos := _, after := _, guard := _ }) (v := ?_) rfl (by kernel_rfl) (by kernel_rfl) (by kernel_rfl) (fun _ _ _ h => h) ?_ (by with_reducible assumption) ?_
    rotate_left 1
    focus (refine Or.inl ⟨by rfl, ?_⟩; intro wq hSw; go_simp; try with_reducible rfl)
    try simp only [Act.put, List.setIfInBounds_toArray, List.set_cons_zero, List.set_cons_succ]
    refine wpAnyH_take (i := 15) (oi := { dst := some _, op := _, type := _, pos := _, after := _, guard := _ }) (v := ?_) rfl (by kernel_rfl) (by kernel_rfl) (by kernel_rfl) (fun _ _ _ h => h) ?_ (by with_reducible assumption) ?_
    rotate_left 1
    focus (refine Or.inl ⟨by rfl, ?_⟩; intro wq hSw; go_simp; try with_reducible rfl)
    try simp only [Act.put, List.setIfInBounds_toArray, List.set_cons_zero, List.set_cons_succ]
    refine wpAnyH_take (i := 16) (oi := { dst := some _, op := _, type := _, pos := _, after := _, guard := _ }) (v := ?_) rfl (by kernel_rfl) (by kernel_rfl) (by kernel_rfl) (fun _ _ _ h => h) ?_ (by with_reducible assumption) ?_
    rotate_left 1
    focus (refine Or.inl ⟨by rfl, ?_⟩; intro wq hSw; go_simp; try with_reducible rfl)
    try simp only [Act.put, List.setIfInBounds_toArray, List.set_cons_zero, List.set_cons_succ]
    refine wpAnyH_take (i := 17) (oi := { dst := some _, op := _, type := _, pos := _, after := _, guard := _ }) (v := ?_) rfl (by kernel_rfl) (by kernel_rfl) (by kernel_rfl) (fun _ _ _ h => h) ?_ (by with_reducible assumption) ?_
    rotate_left 1
    focus (refine Or.inl ⟨by rfl, ?_⟩; intro wq hSw; have y8 := hSw.2.1.cell 8 _ rfl; go_simp; try with_reducible rfl)
    try simp only [Act.put, List.setIfInBounds_toArray, List.set_cons_zero, List.set_cons_succ]
    refine wpAnyH_take (i := 18) (oi := { dst := some _, op := _, type := _, pos := _, after := _, guard := _ }) (v := ?_) rfl (by kernel_rfl) (by kernel_rfl) (by kernel_rfl) (fun _ _ _ h => h) ?_ (by with_reducible assumption) ?_
    rotate_left 1
    focus (refine Or.inl ⟨by rfl, ?_⟩; intro wq hSw; go_simp; try with_reducible rfl)
    try simp only [Act.put, List.setIfInBounds_toArray, List.set_cons_zero, List.set_cons_succ]
    refine wpAnyH_take (i := 19) (oi := { dst := some _, op := _, type := _, pos := _, after := _, guard := _ }) (v := ?_) rfl (by kernel_rfl) (by kernel_rfl) (by kernel_rfl) (fun _ _ _ h => h) ?_ (by with_reducible assumption) ?_
    rotate_left 1
    focus (refine Or.inl ⟨by rfl, ?_⟩; intro wq hSw; go_simp; try with_reducible rfl)
    try simp only [Act.put, List.setIfInBounds_toArray, List.set_cons_zero, List.set_cons_succ]
    refine wpAnyH_take (i := 20) (oi := { dst := some _, op := _, type := _, pos := _, after := _, guard := _ }) (v := ?_) rfl (by kernel_rfl) (by kernel_rfl) (by kernel_rfl) (fun _ _ _ h => h) ?_ (by with_reducible assumption) ?_
    rotate_left 1
    focus (refine Or.inl ⟨by rfl, ?_⟩; intro wq hSw; have d17 := hSw.1.cell 17 _ rfl; go_simp; try with_reducible rfl)
    try simp only [Act.put, List.setIfInBounds_toArray, List.set_cons_zero, List.set_cons_succ]
    refine wpAnyH_take (i := 21) (oi := { dst := some _, op := _, type := _, pos := _, after := _, guard := _ }) (v := ?_) rfl (by kernel_rfl) (by kernel_rfl) (by kernel_rfl) (fun _ _ _ h => h) ?_ (by with_reducible assumption) ?_
    rotate_left 1
    focus (refine Or.inl ⟨by rfl, ?_⟩; intro wq hSw; go_simp; try with_reducible rfl)
    try simp only [Act.put, List.setIfInBounds_toArray, List.set_cons_zero, List.set_cons_succ]
    refine wpAnyH_take (i := 22) (oi := { dst := some _, op := _, type := _, pos := _, after := _, guard := _ }) (v := ?_) rfl (by kernel_rfl) (by kernel_rfl) (by kernel_rfl) (fun _ _ _ h => h) ?_ (by with_reducible assumption) ?_
    rotate_left 1
    focus (refine Or.inl ⟨by rfl, ?_⟩; intro wq hSw; have y0 := hSw.2.1.cell 0 _ rfl; go_simp; try with_reducible rfl)
    try simp only [Act.put, List.setIfInBounds_toArray, List.set_cons_zero, List.set_cons_succ]
    refine wpAnyH_ready (rs := [23]) (by kernel_rfl) (by simp) ?_
    refine AllReadyH.cons rfl (fun KC hKC => ?_) AllReadyH.nil
    go_simp
    refine (has_any _ ra rn rc R i' ((HT.out.here HQ.out).lt) HT.out.rle).mono ?_
    rintro e v3 ⟨rfl, hb⟩
    subst hb
    dsimp only
    obtain ⟨h3, hh3⟩ : ∃ x, x = hasB R i' := ⟨_, rfl⟩
    rw [← hh3]
    have HH3 := Lib.hid hh3
    clear hh3
    refine hKC.out _ _ (HS1.out) (fun hHeld => ?_)
    clear hKC
    try simp only [Act.put, List.setIfInBounds_toArray, List.set_cons_zero, List.set_cons_succ]
    obtain ⟨q3, hq3⟩ : ∃ q, q = (s' == 3) := ⟨_, rfl⟩
    rw [← hq3]
    have HQ3 := Lib.hid hq3
    clear hq3
    rcases (show q3 = !h3 ∨ q3 = h3 by cases q3 <;> cases h3 <;> simp) with rfl | rfl
    · have HNP := Lib.hid (show ¬ (seP en de la nw E K R) from HNO.out (fun h => by have h2 := h.2.2; dsimp only at h2; rw [← HQ3.out, ← HH3.out] at h2; simp at h2))
      refine wpAnyH_take (i := 24) (oi := { dst := some _, op := _, type := _, pos := _, after := _, guard := _ }) (v := ?_) rfl (by kernel_rfl) (by kernel_rfl) (by kernel_rfl) (fun _ _ _ h => h) ?_ (by with_reducible assumption) ?_
      rotate_left 1
      focus (refine Or.inl ⟨by rfl, ?_⟩; intro wq hSw; go_simp; try with_reducible rfl)
      try simp only [Act.put, List.setIfInBounds_toArray, List.set_cons_zero, List.set_cons_succ]
      refine wpAnyH_take (i := 25) (oi := { dst := some _, op := _, type := _, pos := _, after := _, guard := _ }) (v := ?_) rfl (by kernel_rfl) (by kernel_rfl) (by kernel_rfl) (fun _ _ _ h => h) ?_ (by with_reducible assumption) ?_
      rotate_left 1
      focus (refine Or.inl ⟨by rfl, ?_⟩; intro wq hSw; go_simp; try with_reducible rfl)
      try simp only [Act.put, List.setIfInBounds_toArray, List.set_cons_zero, List.set_cons_succ]
      refine wpAnyH_done (by kernel_rfl) ?_ _
      go_wp2_with fail
      go_ret
      exact bend_no HNP.out (low_after HLF.out HQ.out)
    have HE3 := Lib.hid (show (s' == 3) = hasB R i' by rw [← HQ3.out, ← HH3.out])
    clear HQ3 HH3
    refine wpAnyH_take (i := 24) (oi := { dst := some _, op := _, type := _, pos := _, after := _, guard := _ }) (v := ?_) rfl (by kernel_rfl) (by kernel_rfl) (by kernel_rfl) (fun _ _ _ h => h) ?_ (by with_reducible assumption) ?_
    rotate_left 1
    focus (refine Or.inl ⟨by rfl, ?_⟩; intro wq hSw; go_simp; try with_reducible rfl)
    try simp only [Act.put, List.setIfInBounds_toArray, List.set_cons_zero, List.set_cons_succ]
    refine wpAnyH_take (i := 25) (oi := { dst := some _, op := _, type := _, pos := _, after := _, guard := _ }) (v := ?_) rfl (by kernel_rfl) (by kernel_rfl) (by kernel_rfl) (fun _ _ _ h => h) ?_ (by with_reducible assumption) ?_
    rotate_left 1
    focus (refine Or.inl ⟨by rfl, ?_⟩; intro wq hSw; go_simp; try with_reducible rfl)
    try simp only [Act.put, List.setIfInBounds_toArray, List.set_cons_zero, List.set_cons_succ]
    refine wpAnyH_done (by kernel_rfl) ?_ _

    have HGD := Lib.hid (show seGood de la nw p K R ⟨i', (dn : Int) + 1, c', bd', a', t', r', n', s'⟩ from ⟨HGE.out, (by rw [HOV.out]; exact HE1.out), HE3.out⟩)
    have HQ2 := Lib.hid (show ∀ k, (h : k < E.length) → k < j + 1 → seGood de la nw (ahead E k) K R E[k] from fun k hk hkj => by
      rcases (show k < j ∨ k = j by omega) with h | rfl
      · exact HG.out k hk h
      · rw [HJ.out, ← HP.out]; exact HGD.out)
    have y0 := HS1.out.2.1.cell 0 _ rfl
    have HX5 := Lib.hid HS1.out.1
    have HB5 := Lib.hid (low_after HLF.out HQ.out)
    clear HS1 HQ
    go_wp2_with fail
    go_roundw
    case rel => exact ⟨j + 1, by omega, by omega, by go_num, by rw [HAH.out, HJ.out], HQ2, by trivial⟩
    case measure => simp [intOf]; omega

end Go.Proofs.YtkndpkingmemoaaDoor.Gat
namespace Go.Proofs.YtkndpkingmemoaaDoor.Gat
open Go.RowKit
open Lnk (bOne bAfter IOwn IIs below_keep below_drew' low_after low_alloc)
set_option linter.unusedVariables false

/-- how many are dead, of the first devices -/
def deadN (E : List Ev) : Nat → Nat
  | 0 => 0
  | n + 1 => deadN E n + cntN ((n : Int) + 1) 3 E
theorem deadN_le (E : List Ev) : ∀ n, deadN E n ≤ n * E.length
  | 0 => by simp [deadN]
  | n + 1 => by
    have h1 := deadN_le E n
    have h2 := cntN_le ((n : Int) + 1) 3 E
    rw [Nat.succ_mul]
    unfold deadN
    omega
def specP (de qu wi ti qa bu le pb pc pj pt nw la : Int) (en kn : Nat) (tu : Int) (fn rn : Nat) (tk ac dr : Int) (E : List Ev) (K : List Lk) (F R : List Int) : Prop :=
  CfgOk de qu wi ti qa bu le pb pc pj pt ∧ (0 ≤ nw ∧ nw ≤ 1000000000) ∧ (0 ≤ la ∧ la ≤ 9999) ∧ slP kn fn de wi qu E K F ∧ seP en de la nw E K R ∧ (0 ≤ tu ∧ tu ≤ de - 1) ∧ ((rn : Int) ≤ le ∧ rn = deadN E de.toNat) ∧ toP en tk ac dr

set_option maxRecDepth 100000 in
set_option maxHeartbeats 8000000 in
theorem specGateOk_any (w : World) (de qu wi ti qa bu le pb pc pj pt nw la : Int) (ea : Option Addr) (en ec : Nat) (ka : Option Addr) (kn kc : Nat) (tu : Int) (fa : Option Addr) (fn fc : Nat) (ra : Option Addr) (rn rc : Nat) (tk ac dr : Int) (E : List Ev) (K : List Lk) (F R : List Int) (h : GIs w.heap.size w ea en ka kn fa fn ra rn E K F R) :
    Calls Tryd.prog 49 #[.agg #[.int .i64 de, .int .i64 qu, .int .i64 wi, .int .i64 ti, .int .i64 qa, .int .i64 bu, .int .i64 le, .int .i64 pb, .int .i64 pc, .int .i64 pj, .int .i64 pt, .int .i64 nw, .int .i64 la, .slice ea en ec, .slice ka kn kc, .int .i64 tu, .slice fa fn fc, .slice ra rn rc, .int .i64 tk, .int .i64 ac, .int .i64 dr]] w fun e w' => BEnd w w' (specP de qu wi ti qa bu le pb pc pj pt nw la en kn tu fn rn tk ac dr E K F R) e := by
  obtain ⟨W0, hW0⟩ : ∃ W, W = w.alloc (.cells #[.int .i64 de, .int .i64 qu, .int .i64 wi, .int .i64 ti, .int .i64 qa, .int .i64 bu, .int .i64 le, .int .i64 pb, .int .i64 pc, .int .i64 pj, .int .i64 pt, .int .i64 nw, .int .i64 la, .slice ea en ec, .slice ka kn kc, .int .i64 tu, .slice fa fn fc, .slice ra rn rc, .int .i64 tk, .int .i64 ac, .int .i64 dr] 33) := ⟨_, rfl⟩
  have HA : Hid (Box W0 w.heap.size 33 [.int .i64 de, .int .i64 qu, .int .i64 wi, .int .i64 ti, .int .i64 qa, .int .i64 bu, .int .i64 le, .int .i64 pb, .int .i64 pc, .int .i64 pj, .int .i64 pt, .int .i64 nw, .int .i64 la, .slice ea en ec, .slice ka kn kc, .int .i64 tu, .slice fa fn fc, .slice ra rn rc, .int .i64 tk, .int .i64 ac, .int .i64 dr]) := Lib.hid (by rw [hW0]; exact Box.new w [.int .i64 de, .int .i64 qu, .int .i64 wi, .int .i64 ti, .int .i64 qa, .int .i64 bu, .int .i64 le, .int .i64 pb, .int .i64 pc, .int .i64 pj, .int .i64 pt, .int .i64 nw, .int .i64 la, .slice ea en ec, .slice ka kn kc, .int .i64 tu, .slice fa fn fc, .slice ra rn rc, .int .i64 tk, .int .i64 ac, .int .i64 dr] 33)
  have HL : Hid (Below w.heap.size w W0) := Lib.hid (by rw [hW0]; exact bOne _ _)
  have HWE := Lib.hid hW0
  have HT0 := Lib.hid h
  have HT := Lib.hid (show GIs W0.heap.size W0 ea en ka kn fa fn ra rn E K F R from by rw [hW0]; exact h.here (bOne _ _))
  clear h hW0
  have c0 := HA.out.cell 0 _ rfl
  have c1 := HA.out.cell 1 _ rfl
  have c2 := HA.out.cell 2 _ rfl
  have c3 := HA.out.cell 3 _ rfl
  have c4 := HA.out.cell 4 _ rfl
  have c5 := HA.out.cell 5 _ rfl
  have c6 := HA.out.cell 6 _ rfl
  have c7 := HA.out.cell 7 _ rfl
  have c8 := HA.out.cell 8 _ rfl
  have c9 := HA.out.cell 9 _ rfl
  have c10 := HA.out.cell 10 _ rfl
  have c11 := HA.out.cell 11 _ rfl
  have c12 := HA.out.cell 12 _ rfl
  go_enter Tryd.func49, Tryd.ntmps49
  go_upto_region 1 with fail
  rw [← HWE.out]
  clear HWE
  go_wp2_with fail
  refine (specCfg_any de qu wi ti qa bu le pb pc pj pt _).mono ?_
  rintro e w1 ⟨rfl, hb⟩
  replace HA := Lib.hid (HA.out.below hb)
  replace HL := Lib.hid (low_after HL.out hb)
  replace HT := Lib.hid (HT.out.here hb)
  clear hb c0 c1 c2 c3 c4 c5 c6 c7 c8 c9 c10 c11 c12
  have c0 := HA.out.cell 0 _ rfl
  have c11 := HA.out.cell 11 _ rfl
  have c12 := HA.out.cell 12 _ rfl
  obtain ⟨x, hx⟩ : ∃ x, x = cfgB de qu wi ti qa bu le pb pc pj pt := ⟨_, rfl⟩
  rw [← hx]
  have HX := Lib.hid hx
  clear hx
  cases x with
  | false =>
    have HNP := Lib.hid (show ¬ (specP de qu wi ti qa bu le pb pc pj pt nw la en kn tu fn rn tk ac dr E K F R) from fun h => by have := cfgB_yes h.1; rw [← HX.out] at this; cases this)
    go_wp2_with fail
    go_ret
    exact bend_no HNP.out HL.out
  | true =>
  have HCF := Lib.hid (show CfgOk de qu wi ti qa bu le pb pc pj pt from of_decide_eq_true HX.out.symm)
  clear HX
  have hde := And.intro HCF.out.1 HCF.out.2.1
  have hw1 : IntKind.i64.wrap (de - 1) = de - 1 := IntWalk.i64_in _ (by omega)
  go_wp2_with fail
  refine (in_any nw 0 1000000000 _).mono ?_
  rintro e v ⟨rfl, hb⟩
  subst hb
  cases hin : inB 0 1000000000 nw with
  | false =>
    have HNP := Lib.hid (show ¬ (specP de qu wi ti qa bu le pb pc pj pt nw la en kn tu fn rn tk ac dr E K F R) from fun h => inB_no hin h.2.1)
    go_wp2_with fail
    go_ret
    exact bend_no HNP.out HL.out
  | true =>
  have GNW := Lib.hid (inB_yes hin)
  clear hin
  go_wp2_with fail
  refine (in_any la 0 9999 _).mono ?_
  rintro e v ⟨rfl, hb⟩
  subst hb
  cases hin : inB 0 9999 la with
  | false =>
    have HNP := Lib.hid (show ¬ (specP de qu wi ti qa bu le pb pc pj pt nw la en kn tu fn rn tk ac dr E K F R) from fun h => inB_no hin h.2.2.1)
    go_wp2_with fail
    go_ret
    exact bend_no HNP.out HL.out
  | true =>
  have GLA := Lib.hid (inB_yes hin)
  clear hin

  go_wp2_with (first | (refine wpList_loadg_box (by rfl) _ 33 rfl rfl HA.out _ Tryd.underlying33 sizeGate ?_) | fail)
  refine (specLinks_any _ de qu wi ti qa bu le pb pc pj pt nw la ea en ec ka kn kc tu fa fn fc ra rn rc tk ac dr E K F R (by omega) HT.out).mono ?_
  rintro e v0 ⟨⟨x, rfl, hx⟩, hb⟩
  replace HA := Lib.hid (HA.out.below hb)
  replace HL := Lib.hid (low_after HL.out hb)
  replace HT := Lib.hid (HT.out.here hb)
  have HX := Lib.hid hx
  clear hx hb c0 c11 c12
  have c0 := HA.out.cell 0 _ rfl
  have c11 := HA.out.cell 11 _ rfl
  have c12 := HA.out.cell 15 _ rfl
  cases x with
  | false =>
    have HNP := Lib.hid (show ¬ (specP de qu wi ti qa bu le pb pc pj pt nw la en kn tu fn rn tk ac dr E K F R) from fun h => by have := HX.out.2 h.2.2.2.1; cases this)
    go_wp2_with fail
    go_ret
    exact bend_no HNP.out HL.out
  | true =>
  have P0 := Lib.hid (HX.out.1 rfl)
  clear HX
  go_wp2_with (first | (refine wpList_loadg_box (by rfl) _ 33 rfl rfl HA.out _ Tryd.underlying33 sizeGate ?_) | fail)
  refine (specEvents_any _ de qu wi ti qa bu le pb pc pj pt nw la ea en ec ka kn kc tu fa fn fc ra rn rc tk ac dr E K F R P0.out.1 (fun k hk => by obtain ⟨i, hi, rfl⟩ := List.mem_iff_getElem.1 hk; have h1 := P0.out.2.1; have h2 := P0.out.1; have h3 := HT.out.lk.hlen; have h4 := HT.out.lf.hlen; have := (P0.out.2.2 i hi (by omega)).1.len; omega) HT.out).mono ?_
  rintro e v1 ⟨⟨x, rfl, hx⟩, hb⟩
  replace HA := Lib.hid (HA.out.below hb)
  replace HL := Lib.hid (low_after HL.out hb)
  replace HT := Lib.hid (HT.out.here hb)
  have HX := Lib.hid hx
  clear hx hb c0 c11 c12
  have c0 := HA.out.cell 0 _ rfl
  have c11 := HA.out.cell 11 _ rfl
  have c12 := HA.out.cell 15 _ rfl
  cases x with
  | false =>
    have HNP := Lib.hid (show ¬ (specP de qu wi ti qa bu le pb pc pj pt nw la en kn tu fn rn tk ac dr E K F R) from fun h => by have := HX.out.2 h.2.2.2.2.1; cases this)
    go_wp2_with fail
    go_ret
    exact bend_no HNP.out HL.out
  | true =>
  have P1 := Lib.hid (HX.out.1 rfl)
  clear HX
  have hen : en ≤ 60 := P1.out.1
  have HN := Lib.hid HT.out.ev.row.hlen
  have HT00 := Lib.hid (show GIs w.heap.size w ea en ka kn fa fn ra rn E K F R from HT0.out)
  go_wp2_with fail
  refine (in_any tu 0 (de - 1) _).mono ?_
  rintro e v ⟨rfl, hb⟩
  subst hb
  cases hin : inB 0 (de - 1) tu with
  | false =>
    have HNP := Lib.hid (show ¬ (specP de qu wi ti qa bu le pb pc pj pt nw la en kn tu fn rn tk ac dr E K F R) from fun h => inB_no hin h.2.2.2.2.2.1)
    go_wp2_with fail
    go_ret
    exact bend_no HNP.out HL.out
  | true =>
  have GTU := Lib.hid (inB_yes hin)
  clear hin
  clear c0 c11 c12
  obtain ⟨dn, rfl⟩ : ∃ dn : Nat, de = (dn : Int) := ⟨de.toNat, by omega⟩
  have HDN := Lib.hid (show deadN E (dn : Int).toNat = deadN E dn from rfl)
  go_upto_region 5 with fail
  clear hw1
  go_loopw [3, 4] (fun dv i wr => ∃ k m : Nat, k ≤ dn ∧ i = .int .i64 ((k : Int) + 1) ∧ dv = .int .i64 m ∧ Hid (m = deadN E k) ∧ Hid (Below w.heap.size w wr) ∧ Hid (Box wr w.heap.size 33 [.int .i64 (dn : Int), .int .i64 qu, .int .i64 wi, .int .i64 ti, .int .i64 qa, .int .i64 bu, .int .i64 le, .int .i64 pb, .int .i64 pc, .int .i64 pj, .int .i64 pt, .int .i64 nw, .int .i64 la, .slice ea en ec, .slice ka kn kc, .int .i64 tu, .slice fa fn fc, .slice ra rn rc, .int .i64 tk, .int .i64 ac, .int .i64 dr])) (fun _ i _ => dn + 1 - (intOf i).toNat)
  case atStart => exact ⟨0, 0, by omega, rfl, rfl, Lib.hid rfl, HL, HA⟩
  case round =>
    obtain ⟨k, m, hk, rfl, rfl, HM, HB, HX⟩ := hrel
    have c0 := HX.out.cell 0 _ rfl
    by_cases hlt : (k : Int) + 1 ≤ (dn : Int)
    · have hmb : m ≤ 6 * 60 := by
        have h1 := deadN_le E k
        have h2 := HM.out
        have h3 := HN.out
        have h4 : k * E.length ≤ 6 * 60 := Nat.mul_le_mul (by omega) (by omega)
        omega
      have HTL := Lib.hid (HT00.out.here HB.out)
      go_wp2_with (first | (refine wpList_load_box rfl _ 33 rfl rfl HX.out _ Tryd.underlying33 sizeGate ?_) | fail)
      refine (count_any _ (dn : Int) qu wi ti qa bu le pb pc pj pt nw la ea en ec ka kn kc tu fa fn fc ra rn rc tk ac dr E K F R ((k : Int) + 1) 3 HTL.out).mono ?_
      rintro e v ⟨rfl, hb⟩
      have HB2 := Lib.hid (low_after HB.out hb)
      have HX2 := Lib.hid (HX.out.below hb)
      have hq := cntN_le ((k : Int) + 1) 3 E
      obtain ⟨q, hqq⟩ : ∃ q, q = cntN ((k : Int) + 1) 3 E := ⟨_, rfl⟩
      rw [← hqq] at hq ⊢
      have hqb : q ≤ 60 := by have := HN.out; omega
      have HQ := Lib.hid hqq
      have hw3 : IntKind.i64.wrap ((m : Int) + (q : Int)) = (m : Int) + (q : Int) := IntWalk.i64_in _ (by omega)
      have hw4 : IntKind.i64.wrap ((k : Int) + 1 + 1) = (k : Int) + 1 + 1 := IntWalk.i64_in _ (by omega)
      have HM2 := Lib.hid (show m + q = deadN E (k + 1) by rw [HM.out, HQ.out]; rfl)
      clear hb hqq hq c0
      go_wp2_with fail
      go_roundw
      case rel => exact ⟨k + 1, m + q, by omega, by go_num, by go_num, HM2, by trivial⟩
      case measure => simp [intOf]; omega
    · have hkd : k = dn := by omega
      have HDM := Lib.hid (show m = deadN E (dn : Int).toNat by rw [HDN.out, ← hkd]; exact HM.out)
      clear hkd
      have c6 := HX.out.cell 6 _ rfl
      have c13 := HX.out.cell 13 _ rfl
      have c17 := HX.out.cell 17 _ rfl
      have c18 := HX.out.cell 18 _ rfl
      have c19 := HX.out.cell 19 _ rfl
      have c20 := HX.out.cell 20 _ rfl
      by_cases hle : le < (rn : Int)
      · have HNP := Lib.hid (show ¬ (specP (dn : Int) qu wi ti qa bu le pb pc pj pt nw la en kn tu fn rn tk ac dr E K F R) from fun h => by have h1 := h.2.2.2.2.2.2.1.1; omega)
        go_wp2_with fail
        go_ret
        exact bend_no HNP.out HB.out
      have HLE := Lib.hid (show (rn : Int) ≤ le by omega)
      cases hrm : ((rn : Int) != (m : Int)) with
      | true =>
        have HNP := Lib.hid (show ¬ (specP (dn : Int) qu wi ti qa bu le pb pc pj pt nw la en kn tu fn rn tk ac dr E K F R) from fun h => by have h1 := h.2.2.2.2.2.2.1.2; rw [← HDM.out] at h1; have h2 := (by simpa using hrm : (rn : Int) ≠ (m : Int)); omega)
        go_wp2_with fail
        go_ret
        exact bend_no HNP.out HB.out
      | false =>
      have HRM := Lib.hid (show rn = deadN E (dn : Int).toNat by rw [← HDM.out]; have h2 := (by simpa using hrm : (rn : Int) = (m : Int)); omega)
      go_wp2_with fail
      refine (in_any tk 0 9999 _).mono ?_
      rintro e v ⟨rfl, hb⟩
      subst hb
      cases hin : inB 0 9999 tk with
      | false =>
        have HNP := Lib.hid (show ¬ (specP (dn : Int) qu wi ti qa bu le pb pc pj pt nw la en kn tu fn rn tk ac dr E K F R) from fun h => inB_no hin h.2.2.2.2.2.2.2.1)
        go_wp2_with fail
        go_ret
        exact bend_no HNP.out HB.out
      | true =>
      have GTK := Lib.hid (inB_yes hin)
      clear hin
      go_wp2_with fail
      refine (in_any ac 0 9999 _).mono ?_
      rintro e v ⟨rfl, hb⟩
      subst hb
      cases hin : inB 0 9999 ac with
      | false =>
        have HNP := Lib.hid (show ¬ (specP (dn : Int) qu wi ti qa bu le pb pc pj pt nw la en kn tu fn rn tk ac dr E K F R) from fun h => inB_no hin h.2.2.2.2.2.2.2.2.1)
        go_wp2_with fail
        go_ret
        exact bend_no HNP.out HB.out
      | true =>
      have GAC := Lib.hid (inB_yes hin)
      clear hin
      go_wp2_with fail
      refine (in_any dr 0 9999 _).mono ?_
      rintro e v ⟨rfl, hb⟩
      subst hb
      cases hin : inB 0 9999 dr with
      | false =>
        have HNP := Lib.hid (show ¬ (specP (dn : Int) qu wi ti qa bu le pb pc pj pt nw la en kn tu fn rn tk ac dr E K F R) from fun h => inB_no hin h.2.2.2.2.2.2.2.2.2.1)
        go_wp2_with fail
        go_ret
        exact bend_no HNP.out HB.out
      | true =>
      have GDR := Lib.hid (inB_yes hin)
      clear hin
      have hw5 : IntKind.i64.wrap ((en : Int) + ac) = (en : Int) + ac := IntWalk.i64_in _ (by have := GAC.out; omega)
      have hw6 : IntKind.i64.wrap ((en : Int) + ac + dr) = (en : Int) + ac + dr := IntWalk.i64_in _ (by have := GAC.out; have := GDR.out; omega)
      cases hbb : (tk == (en : Int) + ac + dr) with
      | true =>
        have HY := Lib.hid (show (specP (dn : Int) qu wi ti qa bu le pb pc pj pt nw la en kn tu fn rn tk ac dr E K F R) from ⟨HCF.out, GNW.out, GLA.out, P0.out, P1.out, GTU.out, ⟨HLE.out, HRM.out⟩, GTK.out, GAC.out, GDR.out, by simpa using hbb⟩)
        go_wp2_with fail
        go_ret
        exact bend_yes HY.out HB.out
      | false =>
        have HNP := Lib.hid (show ¬ (specP (dn : Int) qu wi ti qa bu le pb pc pj pt nw la en kn tu fn rn tk ac dr E K F R) from fun h => by have h1 := h.2.2.2.2.2.2.2.2.2.2; rw [h1] at hbb; simp at hbb)
        go_wp2_with fail
        go_ret
        exact bend_no HNP.out HB.out

end Go.Proofs.YtkndpkingmemoaaDoor.Gat
