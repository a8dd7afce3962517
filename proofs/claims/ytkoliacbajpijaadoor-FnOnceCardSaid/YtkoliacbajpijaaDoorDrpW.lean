/-
  The walk of drop.
-/
import Derived.Test.YtkoliacbajpijaaDoorEmpW
import Derived.Maps.OwnSet
namespace Go.Proofs.YtkoliacbajpijaaDoor.Whl
open Go.RowKit Go.Maps
set_option linter.unusedVariables false

/-- the map tells of each of these timers its time, and of no others -/
structure AtsIs (D : DataW Unit) (L : List T) : Prop where
  tidy : Tidy D
  has : ∀ id : Int, Maps.has D (.int .i64 id) = decide (∃ t ∈ L, t.2 = id)
  at_ : ∀ t ∈ L, ∀ z, D.atKey (.int .i64 t.2) z = .lit (.int .i64 t.1)
  size : Maps.size D = L.length
theorem keyNe {a b : Int} (h : a ≠ b) : (Lit.int .i64 a) ≠ (Lit.int .i64 b) := fun e => h (by injection e)
theorem AtsIs.start : AtsIs (.map []) [] := ⟨tidy_empty, fun id => by simp [Maps.has_eq], by simp, rfl⟩
theorem AtsIs.perm {D : DataW Unit} {L L' : List T} (h : AtsIs D L) (hp : L.Perm L') : AtsIs D L' :=
  ⟨h.tidy, fun id => by rw [h.has]; simp only [hp.mem_iff], fun t ht z => h.at_ t (hp.mem_iff.2 ht) z, by rw [h.size, hp.length_eq]⟩
theorem AtsIs.put_new {D : DataW Unit} {L : List T} (h : AtsIs D L) (t : T) (hn : ∀ u ∈ L, u.2 ≠ t.2) : AtsIs (D.put (.int .i64 t.2) (.lit (.int .i64 t.1))) (L ++ [t]) := by
  have hf : Maps.has D (.int .i64 t.2) = false := by
    rw [h.has]
    simp only [decide_eq_false_iff_not]
    rintro ⟨u, hu, e⟩
    exact hn u hu e
  refine ⟨h.tidy.put (show WideAt.IsKeyLit (.int .i64 t.2) from trivial) _, fun id => ?_, fun u hu z => ?_, ?_⟩
  · by_cases e : id = t.2
    · subst e
      rw [has_put_same h.tidy.isMap (show WideAt.IsKeyLit (.int .i64 t.2) from trivial)]
      simp
    · rw [has_put_other (keyNe e), h.has]
      simp [Ne.symm e]
  · rcases List.mem_append.1 hu with r | r
    · rw [atKey_put_other (keyNe (hn u r))]
      exact h.at_ u r z
    · simp at r
      subst r
      rw [atKey_put_same h.tidy.isMap (show WideAt.IsKeyLit (.int .i64 u.2) from trivial)]
  · rw [size_put h.tidy, hf]
    simp [h.size]
theorem AtsIs.put_old {D : DataW Unit} {L : List T} (h : AtsIs D L) (t : T) (ht : t ∈ L) (hids : (L.map Prod.snd).Nodup) : AtsIs (D.put (.int .i64 t.2) (.lit (.int .i64 t.1))) L := by
  have hf : Maps.has D (.int .i64 t.2) = true := by
    rw [h.has]
    simp only [decide_eq_true_eq]
    exact ⟨t, ht, rfl⟩
  refine ⟨h.tidy.put (show WideAt.IsKeyLit (.int .i64 t.2) from trivial) _, fun id => ?_, fun u hu z => ?_, ?_⟩
  · by_cases e : id = t.2
    · subst e
      rw [has_put_same h.tidy.isMap (show WideAt.IsKeyLit (.int .i64 t.2) from trivial), ← h.has, hf]
    · rw [has_put_other (keyNe e), h.has]
  · by_cases e : u.2 = t.2
    · have : u = t := by
        have h1 := List.pairwise_map.1 hids
        obtain ⟨i, hi, rfl⟩ := List.getElem_of_mem hu
        obtain ⟨j, hj, rfl⟩ := List.getElem_of_mem ht
        rcases Nat.lt_trichotomy i j with r | r | r
        · exact absurd e (List.pairwise_iff_getElem.1 h1 i j hi hj r)
        · subst r; rfl
        · exact absurd e.symm (List.pairwise_iff_getElem.1 h1 j i hj hi r)
      subst this
      rw [atKey_put_same h.tidy.isMap (show WideAt.IsKeyLit (.int .i64 u.2) from trivial)]
    · rw [atKey_put_other (keyNe e)]
      exact h.at_ u hu z
  · rw [size_put h.tidy, hf]
    simp [h.size]
theorem filter_ids_len {L : List T} (hids : (L.map Prod.snd).Nodup) {t : T} (ht : t ∈ L) : (dropL L t.2).length + 1 = L.length := by
  induction L with
  | nil => simp at ht
  | cons x r ih =>
    rw [List.map_cons, List.nodup_cons] at hids
    unfold dropL at *
    by_cases e : x.2 = t.2
    · have : r.filter (fun u => decide (u.2 ≠ t.2)) = r := List.filter_eq_self.2 (fun u hu => by
        simp only [decide_eq_true_eq]
        intro e2
        exact hids.1 (List.mem_map.2 ⟨u, hu, by rw [e2, e]⟩))
      rw [List.filter_cons_of_neg (by simpa using e), this, List.length_cons]
    · rcases List.mem_cons.1 ht with r' | r'
      · exact absurd (by rw [r']) e
      · have := ih hids.2 r'
        rw [List.filter_cons_of_pos (by simpa using e), List.length_cons, List.length_cons]
        omega
theorem AtsIs.del {D : DataW Unit} {L : List T} (h : AtsIs D L) (hids : (L.map Prod.snd).Nodup) {t : T} (ht : t ∈ L) : AtsIs (D.del (.int .i64 t.2)) (dropL L t.2) := by
  have hf : Maps.has D (.int .i64 t.2) = true := by
    rw [h.has]
    simp only [decide_eq_true_eq]
    exact ⟨t, ht, rfl⟩
  refine ⟨h.tidy.del _, fun id => ?_, fun u hu z => ?_, ?_⟩
  · by_cases e : id = t.2
    · subst e
      rw [has_del_same]
      symm
      simp only [decide_eq_false_iff_not]
      rintro ⟨u, hu, e⟩
      exact (dropL_mem.1 hu).2 e
    · rw [has_del_other (keyNe e), h.has]
      congr 1
      apply propext
      constructor
      · rintro ⟨u, hu, e2⟩; exact ⟨u, dropL_mem.2 ⟨hu, by rw [e2]; exact e⟩, e2⟩
      · rintro ⟨u, hu, e2⟩; exact ⟨u, (dropL_mem.1 hu).1, e2⟩
  · obtain ⟨h1, h2⟩ := dropL_mem.1 hu
    rw [atKey_del_other (keyNe h2)]
    exact h.at_ u h1 z
  · have h1 := size_del h.tidy (k := .int .i64 t.2)
    rw [hf, h.size] at h1
    have h2 := filter_ids_len hids ht
    simp at h1
    omega
theorem AtsIs.fill : ∀ {L : List T} (M : List T) (D : DataW Unit), AtsIs D M → ((M ++ L).map Prod.snd).Nodup → AtsIs (putAll D L) (M ++ L)
  | [], M, D, h, _ => by simpa [putAll] using h
  | t :: L, M, D, h, hn => by
    have h1 : AtsIs (D.put (.int .i64 t.2) (.lit (.int .i64 t.1))) (M ++ [t]) := h.put_new t (fun u hu e => by
      rw [List.map_append, List.nodup_append] at hn
      exact hn.2.2 u.2 (List.mem_map.2 ⟨u, hu, rfl⟩) t.2 (by simp) e)
    have h2 := AtsIs.fill (L := L) (M ++ [t]) _ h1 (by simpa using hn)
    have e : M ++ t :: L = (M ++ [t]) ++ L := by simp
    rw [e]
    exact h2
theorem dropL_none {L : List T} {id : Int} (h : ∀ t ∈ L, t.2 ≠ id) : dropL L id = L := List.filter_eq_self.2 (fun t ht => by simpa using h t ht)
/-- .. with room for what drop puts back -/
def DropEnd (B : Nat) (w w' : World) (b bm : Nat) (now : Int) (L : List T) (id : Int) (n : Nat) (e : Ending) : Prop :=
  e = .returned (.tuple #[]) ∧ ∃ f v n' D, WstE B w' b bm now f v n' D ∧ Fit now f (dropL L id) ∧ AtsIs D (dropL L id) ∧ n' ≤ n + L.length ∧ Below B w w'
theorem dropL_append (L M : List T) (id : Int) : dropL (L ++ M) id = dropL L id ++ dropL M id := by simp [dropL]
theorem Liv.drop {now : Int} {L : List T} (h : Liv now L) (id : Int) : Liv now (dropL L id) := h.sub List.filter_sublist

/-- Where drop stands: j of the taken were looked at. -/
structure DrpI (B : Nat) (w0 w : World) (b bm : Nat) (now id : Int) (L R d : List T) (g cap n j : Nat) (f : Nat → Nat → List T) (v : Nat → Nat → Value) (n' : Nat) (D : DataW Unit) : Prop where
  st : WstE B w b bm now f v n' D
  nb : n' ≤ n + j
  fit : Fit now f (dropL (R ++ d.take j) id)
  ats : AtsIs D (dropL L id)
  row : TOwn B w 28 (.slice (some ⟨g, 0, none⟩) d.length cap) d
  rfar : Far b bm v g
  below : Below B w0 w
theorem ids_one {L : List T} (hids : (L.map Prod.snd).Nodup) {t u : T} (ht : t ∈ L) (hu : u ∈ L) (e : u.2 = t.2) : u = t := by
  have h1 := List.pairwise_map.1 hids
  obtain ⟨i, hi, rfl⟩ := List.getElem_of_mem hu
  obtain ⟨j, hj, rfl⟩ := List.getElem_of_mem ht
  rcases Nat.lt_trichotomy i j with r | r | r
  · exact absurd e (List.pairwise_iff_getElem.1 h1 i j hi hj r)
  · subst r; rfl
  · exact absurd e.symm (List.pairwise_iff_getElem.1 h1 j i hj hi r)
theorem drp_start {B : Nat} {w0 w1 w4 : World} {b bm : Nat} {now id : Int} {f : Nat → Nat → List T} {v : Nat → Nat → Value} {n l s : Nat} {D : DataW Unit} {L : List T} {t : T}
    (hb0 : Below B w0 w1) (h1 : WstE B w1 b bm now f v n (D.del (.int .i64 id))) (hfit : Fit now f L) (hliv : Liv now L) (hats : AtsIs D L) (ht : t ∈ L) (hte : t.2 = id) (hl : lev now t.1 = l) (hs : dig t.1 l = (s : Int)) (hl5 : l < 5) (hs64 : s < 64)
    (h4 : WstE B w4 b bm now (upd2 f l s []) (upd2 v l s nilV) n (D.del (.int .i64 id))) (hg : w1.grownBy w4 (some b)) (hb : B ≤ b) :
    ∃ g cap, v l s = .slice (some ⟨g, 0, none⟩) (f l s).length cap ∧ DrpI B w0 w4 b bm now id L (restAt now l s L) (f l s) g cap n 0 (upd2 f l s []) (upd2 v l s nilV) n (D.del (.int .i64 id)) := by
  have htd : t ∈ f l s := (fit_mem hfit hl5 hs64).2 ⟨ht, hl, hs⟩
  obtain ⟨g, cap, hv⟩ := own_form (h1.own l s hl5 hs64) (fun e => by rw [e] at htd; simp at htd)
  have hgo : (v l s).ownBlock = some g := by rw [hv]; rfl
  have hne := h1.vne hl5 hs64 hgo
  refine ⟨g, cap, hv, ⟨h4, by omega, ?_, ?_, ?_, h1.taken_far l s hl5 hs64 hgo, hb0.grown hg h1.hB (fun k e => by injection e with e; omega)⟩⟩
  · rw [List.take_zero, List.append_nil, dropL_none (fun u hu e => ?_)]
    · exact fit_take hfit l s
    · obtain ⟨hu1, hu2⟩ := rest_mem.1 hu
      have : u = t := ids_one hliv.ids ht hu1 (by rw [e, hte])
      subst this
      rw [at_iff.2 ⟨hl, hs⟩] at hu2
      simp at hu2
  · have := hats.del hliv.ids ht
    rwa [hte] at this
  · have h2 := h1.own l s hl5 hs64
    rw [hv] at h2
    exact h2.grown hg (.inr (by simpa [Value.ownBlock] using hne.1))
theorem drp_skip {B : Nat} {w0 w w1 : World} {b bm : Nat} {now id x y : Int} {L R d : List T} {g cap n j : Nat} {f : Nat → Nat → List T} {v : Nat → Nat → Value} {n' : Nat} {D : DataW Unit}
    (h : DrpI B w0 w b bm now id L R d g cap n j f v n' D) (hj : j < d.length) (hxy : d[j] = (x, y)) (hy : y = id) (hb : Below w.heap.size w w1) : DrpI B w0 w1 b bm now id L R d g cap n (j + 1) f v n' D := by
  refine ⟨h.st.below hb, by have := h.nb; omega, ?_, h.ats, h.row.below hb, h.rfar, h.below.trans (hb.mono h.st.hB)⟩
  rw [List.take_succ_eq_append_getElem hj, ← List.append_assoc, dropL_append, hxy]
  have : dropL [(x, y)] id = [] := by simp [dropL, hy]
  rw [this, List.append_nil]
  exact h.fit
theorem drp_place {B : Nat} {w0 w w1 w' : World} {b bm : Nat} {now id x y : Int} {L R d : List T} {g cap n j : Nat} {f : Nat → Nat → List T} {v v' : Nat → Nat → Value} {n' li si : Nat} {D : DataW Unit}
    (h : DrpI B w0 w b bm now id L R d g cap n j f v n' D) (hj : j < d.length) (hxy : d[j] = (x, y)) (hy : y ≠ id) (hb : Below w.heap.size w w1) (hl : lev now x = li) (hs : dig x li = (si : Int)) (hmem : (x, y) ∈ L) (hliv : Liv now L)
    (h' : WstE B w' b bm now (upd2 f li si (f li si ++ [(x, y)])) v' (n' + 1) (D.put (.int .i64 y) (.lit (.int .i64 x)))) (hk : KpV w1 w' b bm v v') (hbB : B ≤ b) (hmB : B ≤ bm) : DrpI B w0 w' b bm now id L R d g cap n (j + 1) (upd2 f li si (f li si ++ [(x, y)])) v' (n' + 1) (D.put (.int .i64 y) (.lit (.int .i64 x))) := by
  have hlt := (World.ownsRow.lt h.row g rfl).2
  refine ⟨h', by have := h.nb; omega, ?_, ?_, hk.keep (h.row.below hb) (fun k e => ?_), hk.far (Nat.lt_of_lt_of_le hlt hb.size) h.rfar, ?_⟩
  · rw [List.take_succ_eq_append_getElem hj, ← List.append_assoc, dropL_append, hxy]
    have : dropL [(x, y)] id = [(x, y)] := by simp [dropL, hy]
    rw [this]
    exact fit_place h.fit (x, y) li si hl hs
  · exact h.ats.put_old (x, y) (dropL_mem.2 ⟨hmem, hy⟩) (hliv.drop id).ids
  · simp only [Value.ownBlock, Option.some.injEq] at e
    exact e ▸ h.rfar
  · exact (h.below.trans (hb.mono h.st.hB)).trans (hk.low hbB hmB (fun i j hi hj g hg => (h.st.vlt hi hj hg).1) (Nat.le_trans h.st.hB hb.size))

set_option maxRecDepth 100000 in
set_option maxHeartbeats 1000000 in
theorem drop_walk (w : World) (B b bm : Nat) (now id : Int) (f : Nat → Nat → List T) (v : Nat → Nat → Value) (n : Nat) (D : DataW Unit) (L : List T)
    (hst : WstE B w b bm now f v n D) (hfit : Fit now f L) (hliv : Liv now L) (hats : AtsIs D L) (hid : (Lit.int .i64 id).wf = true) (hn : n ≤ 1000) (hlen : L.length ≤ 100) (hb : B ≤ b) (hm : B ≤ bm) :
    Calls Tryd.prog 44 #[.pointer (some ⟨b, 0, none⟩), .int .i64 id] w fun e w' => DropEnd B w w' b bm now L id n e := by
  have HKEY := Lib.hid (keyOf_int_mk (P := Tryd.prog) Tryd.underlying3 hid)
  have HST := Lib.hid hst
  have HFIT := Lib.hid hfit
  have HLIV := Lib.hid hliv
  have HATS := Lib.hid hats
  have km := hst.atsCell
  have HB := Lib.hid hst.hB
  clear hst hfit hliv hats
  by_cases hh : ∃ t ∈ L, t.2 = id
  · have hhas : Maps.has D (.int .i64 id) = true := by rw [HATS.out.has]; simpa using hh
    obtain ⟨t, ht, hte⟩ := hh
    have HCT := Lib.hid (fun (c : Int) (hat : D.atKey (.int .i64 id) (.lit (.int .i64 0)) = .lit (.int .i64 c)) => show c = t.1 by
      have := HATS.out.at_ t ht (.lit (.int .i64 0))
      rw [hte, hat] at this
      injection this with this
      injection this)
    have HT := Lib.hid ht
    have HTE := Lib.hid hte
    have HR := Lib.hid (HLIV.out.rng t ht)
    have HLV := Lib.hid (HLIV.out.lev4 ht)
    clear ht hte
    go_enter Tryd.func44, Tryd.ntmps44
    go_wp2_with (first | (at_lookup; refine wpList_lookup_own_ok_int _ rfl _ _ 70 rfl 3 3 .i64 keyInt Tryd.underlying70 Tryd.underlying3 (zeroInt _) bm n D rfl HST.out.ownMap _ _ rfl HKEY.out ?_; intro c hat hwc) | (at_delete; refine wpList_delete_own _ rfl _ _ 70 3 rfl 3 keyInt Tryd.underlying70 _ bm n D rfl HST.out.ownMap _ _ rfl HKEY.out ?_; intro w1 hmap1 hturn1; have HS1 := Lib.hid (HST.out.newMap hmap1 hturn1.grown); have HG1 := Lib.hid hturn1.grown; have k0 := HS1.out.nowCell.1; clear hmap1 hturn1) | fail)
    have hc := HCT.out c hat
    clear hat hwc k0
    have hr := HR.out
    have hlv4 := HLV.out
    rw [← hc] at hr hlv4
    have HC := Lib.hid hc
    have HWN := Lib.hid (i64_small HLIV.out.n0 HLIV.out.n1)
    have HWC := Lib.hid (i64_small (z := c) (by have := HLIV.out.n0; omega) hr.2.1)
    obtain ⟨l, hl⟩ : ∃ l, l = lev now c := ⟨_, rfl⟩
    rw [← hl] at hlv4
    have hdb := dig_bd c l
    obtain ⟨s, hs⟩ : ∃ s : Nat, dig c l = (s : Int) := ⟨(dig c l).toNat, by omega⟩
    have hs64 : s < 64 := by omega
    have hlvl := fun w1 => level_any now c w1 HWN.out HWC.out
    have hslt := fun w1 => slot_any c (l : Int) w1 HWC.out (i64_small (by omega) (by omega))
    rw [levI_ok HLIV.out.n0 (by have := HLIV.out.n0; omega), ← hl] at hlvl
    rw [slotI_ok (by have := HLIV.out.n0; omega) (by omega) (by omega), Int.toNat_natCast, hs] at hslt
    have HLL := Lib.hid hlvl
    have HSL := Lib.hid hslt
    have HLE := Lib.hid hl
    have HSE := Lib.hid hs
    clear hlvl hslt hl hs hdb hr hc
    refine (HLL.out _).mono ?_
    rintro e w2 ⟨rfl, n2, rfl⟩
    have HB2 := Lib.hid (below_drewN (Below.refl w1.heap.size w1) n2)
    obtain ⟨w2, hw2⟩ : ∃ w2, w2 = w1.drewN n2 := ⟨_, rfl⟩
    rw [← hw2] at HB2 ⊢
    clear hw2
    have HS2 := Lib.hid (HS1.out.below HB2.out)
    go_wp2_with fail
    refine (HSL.out _).mono ?_
    rintro e w3 ⟨rfl, rfl⟩
    go_wp2_with fail
    refine (take_st HS2.out l s (by omega) hs64).mono ?_
    rintro e w4 ⟨rfl, h4, hg4⟩
    have hbw : Below B w w2 := ((Below.refl B w).grown HG1.out HB.out (fun k e => by injection e with e; omega)).trans (HB2.out.mono (by have := HG1.out.size; have := HB.out; omega))
    obtain ⟨g, cap, hv, hdi⟩ := drp_start hbw HS2.out HFIT.out HLIV.out HATS.out HT.out HTE.out (l := l) (s := s) (by rw [← HC.out]; exact HLE.out.symm) (by rw [← HC.out]; exact HSE.out) (by omega) hs64 h4 hg4 hb
    rw [hv]
    have HDI := Lib.hid hdi
    clear hdi hv h4 hg4 hbw
    have hdl : (f l s).length ≤ L.length := fit_len HFIT.out (by omega) hs64
    have HPM := Lib.hid (rest_perm HFIT.out (l := l) (s := s) (by omega) hs64)
    have HMD := Lib.hid (fun u (hu : u ∈ f l s) => ((fit_mem HFIT.out (by omega) hs64).1 hu).1)
    obtain ⟨d, hd⟩ : ∃ d, d = f l s := ⟨_, rfl⟩
    rw [← hd] at HDI HPM HMD hdl ⊢
    clear hd
    obtain ⟨R, hR⟩ : ∃ R, R = restAt now l s L := ⟨_, rfl⟩
    rw [← hR] at HDI HPM
    clear hR
    obtain ⟨dl, hdle⟩ : ∃ dl, dl = d.length := ⟨_, rfl⟩
    have HDL := Lib.hid hdle
    rw [← hdle] at hdl ⊢
    clear hdle
    go_wp2_with fail
    go_loopw [40] (fun i wr => ∃ (j : Nat) (f' : Nat → Nat → List T) (v' : Nat → Nat → Value) (n' : Nat) (D' : DataW Unit), j ≤ dl ∧ i = .int .i64 j ∧ Hid (DrpI B w wr b bm now id L R d g cap n j f' v' n' D')) (fun i _ => dl - (intOf i).toNat)
    case atStart => exact ⟨0, _, _, _, _, by omega, rfl, HDI⟩
    case round =>
      obtain ⟨j, f', v', n', D', hj, rfl, HI⟩ := hrel
      by_cases hlt : (j : Int) < (dl : Int)
      · have hjd : j < d.length := by have := HDL.out; omega
        obtain ⟨c0, c1, _, _⟩ := HI.out.row.cellAt j hjd
        have hmem := HMD.out d[j] (List.getElem_mem hjd)
        have hrng := HLIV.out.rng d[j] hmem
        have hl4 := HLIV.out.lev4 hmem
        obtain ⟨x, hx⟩ : ∃ x, x = d[j].1 := ⟨_, rfl⟩
        obtain ⟨y, hy⟩ : ∃ y, y = d[j].2 := ⟨_, rfl⟩
        have hxy : d[j] = (x, y) := by rw [hx, hy]
        rw [hxy] at hmem
        have HXY := Lib.hid hxy
        have HMEM := Lib.hid hmem
        rw [← hx] at c0 hrng hl4
        rw [← hy] at c1 hrng
        clear hx hy hmem hxy
        have HR2 := Lib.hid hrng
        have HL2 := Lib.hid hl4
        clear hrng hl4
        have hdb := dig_bd x (lev now x)
        have HSI := Lib.hid (show dig x (lev now x) = ((dig x (lev now x)).toNat : Int) by omega)
        have HSB := Lib.hid (show (dig x (lev now x)).toNat < 64 by omega)
        clear hdb
        have HB5 := Lib.hid (bOne wr (.cells #[.int .i64 x, .int .i64 y] 28))
        by_cases hyid : y = id
        · have HY := Lib.hid hyid
          have hb1 : (y != id) = false := by simp [hyid]
          have hb2 : (y == id) = true := by simp [hyid]
          have HI2 := Lib.hid (drp_skip HI.out hjd HXY.out hyid HB5.out)
          clear hyid
          go_wp2_with fail
          go_roundw
          case rel => exact ⟨j + 1, _, _, _, _, by omega, by go_num, HI2⟩
          case measure => simp [intOf]; omega
        · have HY := Lib.hid hyid
          have hb1 : (y != id) = true := by simp [hyid]
          have hb2 : (y == id) = false := by simp [hyid]
          clear hyid
          have HFL := Lib.hid (show (f' (lev now x) (dig x (lev now x)).toNat).length ≤ 1000 by
            have h1 := fit_len HI.out.fit (l := lev now x) (s := (dig x (lev now x)).toNat) (by have := HL2.out; omega) HSB.out
            have h2 : (dropL (R ++ d.take j) id).length ≤ (R ++ d.take j).length := List.length_filter_le _ _
            have h3 := HPM.out.length_eq
            simp only [List.length_append, List.length_take] at h2 h3
            omega)
          go_wp2_with fail
          refine (place_st (HI.out.st.below HB5.out) x y (lev now x) (dig x (lev now x)).toNat rfl HSI.out (by have := HL2.out; omega) HSB.out HLIV.out.n0 HLIV.out.n1 (by have := HLIV.out.n0; have := HR2.out; omega) HR2.out.2.1 HR2.out.2.2.1 HR2.out.2.2.2 HFL.out (by have := HI.out.nb; omega)).mono ?_
          rintro e w6 ⟨rfl, v6, h6, hk6⟩
          have HI2 := Lib.hid (drp_place HI.out hjd HXY.out HY.out HB5.out rfl HSI.out HMEM.out HLIV.out h6 hk6 hb hm)
          clear h6 hk6 c0 c1
          go_wp2_with fail
          go_roundw
          case rel => exact ⟨j + 1, _, _, _, _, by omega, by go_num, HI2⟩
          case measure => simp [intOf]; omega
      · have hjd : j = d.length := by have := HDL.out; omega
        have hfin := HI.out
        have hpd : (dropL (R ++ d) id).Perm (dropL L id) := (HPM.out.symm.filter _)
        have hf2 := hfin.fit
        rw [hjd, List.take_length] at hf2
        have HEND := Lib.hid (show DropEnd B w wr b bm now L id n (.returned (.tuple #[])) from ⟨rfl, f', v', n', D', hfin.st, fit_perm hf2 hpd, hfin.ats, by have := hfin.nb; have := HDL.out; omega, hfin.below⟩)
        clear hfin hpd hf2 hjd
        go_wp2_with fail
        go_end0
        exact HEND.out
  · have hhas : Maps.has D (.int .i64 id) = false := by rw [HATS.out.has]; simpa using hh
    have HEND := Lib.hid (show DropEnd B w w b bm now L id n (.returned (.tuple #[])) from ⟨rfl, f, v, n, D, HST.out, by rw [dropL_none (fun t ht e => hh ⟨t, ht, e⟩)]; exact HFIT.out, by rw [dropL_none (fun t ht e => hh ⟨t, ht, e⟩)]; exact HATS.out, by omega, Below.refl _ _⟩)
    clear hh
    go_enter Tryd.func44, Tryd.ntmps44
    go_wp2_with (first | (at_lookup; refine wpList_lookup_own_ok_int _ rfl _ _ 70 rfl 3 3 .i64 keyInt Tryd.underlying70 Tryd.underlying3 (zeroInt _) bm n D rfl HST.out.ownMap _ _ rfl HKEY.out ?_; intro c hat hwc) | fail)
    exact bodyPost_ret (results_none rfl _ _ _) rfl HEND.out
end Go.Proofs.YtkoliacbajpijaaDoor.Whl
