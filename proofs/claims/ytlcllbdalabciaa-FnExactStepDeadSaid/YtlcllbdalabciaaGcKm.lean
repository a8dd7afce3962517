/-
  The specification's StepOld.
-/
import Derived.Test.YtlcllbdalabciaaGcJm
import Derived.Test.YtlcllbdalabciaaMgp
import Derived.Test.YtlcllbdalabciaaMgf
namespace Go.Proofs.Ytlcllbdalabciaa.Gat
open Go.RowKit
open Lnk (bOne bAfter IOwn IIs YOwn YIs below_keep below_drew' bcell low_after low_alloc grown_of_below fgtL)
set_option linter.unusedVariables false
set_option linter.unusedSimpArgs false

theorem sizeEvt : (Try.prog.info? 81).map (·.size) = some 9 := by kernel_rfl
noncomputable def fgtK (k : Lk) (id : Int) : Lk := ⟨k.up, k.ep, k.sq, fgtL k.up k.ep k.sq k.l id⟩
def isOld (nw : Int) (e : Ev) : Bool := Evt.oldB e.a e.t e.s nw
def withS (e : Ev) (s : Int) : Ev := ⟨e.i, e.d, e.c, e.b, e.a, e.t, e.r, e.n, s⟩
theorem lr_of {x : Lr} {k : Lk} {u v : Value} {up : Bool} {ep sq : Int} {y : List Lnk.Y} (h : x = ⟨k.up, k.ep, k.sq, u⟩) (hk : k = ⟨up, ep, sq, y⟩) (hu : u = v) : x = ⟨up, ep, sq, v⟩ := by subst hk; subst hu; exact h
def oldE (nw : Int) (e : Ev) : Ev := if isOld nw e then withS e 2 else e
noncomputable def oldK (nw : Int) (K : List Lk) (e : Ev) : List Lk := if isOld nw e then K.set (e.d - 1).toNat (fgtK (K.getD (e.d - 1).toNat lk0) e.i) else K
def oldEs (nw : Int) (E : List Ev) (j : Nat) : List Ev := (E.take j).map (oldE nw) ++ E.drop j
noncomputable def oldKs (nw : Int) (K : List Lk) (E : List Ev) (j : Nat) : List Lk := (E.take j).foldl (oldK nw) K
theorem oldEs_zero (nw : Int) (E : List Ev) : oldEs nw E 0 = E := by simp [oldEs]
theorem oldEs_all (nw : Int) (E : List Ev) : oldEs nw E E.length = E.map (oldE nw) := by simp [oldEs]
theorem oldEs_len (nw : Int) (E : List Ev) (j : Nat) : (oldEs nw E j).length = E.length := by simp [oldEs]; omega
theorem oldEs_atq (nw : Int) (E : List Ev) (j : Nat) (h : j < E.length) : (oldEs nw E j)[j]? = some E[j] := by
  unfold oldEs
  have h1 : ((E.take j).map (oldE nw)).length = j := by simp; omega
  rw [List.getElem?_append_right (by omega), h1, Nat.sub_self, List.getElem?_drop]
  simp
theorem oldEs_at (nw : Int) (E : List Ev) (j : Nat) (h : j < E.length) (h' : j < (oldEs nw E j).length) : (oldEs nw E j)[j] = E[j] := (List.getElem?_eq_some_iff.1 (oldEs_atq nw E j h)).2
theorem fgtL_len (up : Bool) (ep sq : Int) (l : List Lnk.Y) (id : Int) : (fgtL up ep sq l id).length ≤ l.length := by
  unfold fgtL
  split
  · exact List.length_filter_le _ _
  · exact Nat.le_refl _
theorem oldKs_small (nw : Int) (K : List Lk) (E : List Ev) (j : Nat) (h : ∀ k ∈ K, k.l.length ≤ 1048576) : ∀ k ∈ oldKs nw K E j, k.l.length ≤ 1048576 := by
  unfold oldKs
  generalize E.take j = L
  induction L generalizing K with
  | nil => exact h
  | cons e L ih =>
    rw [List.foldl_cons]
    refine ih _ ?_
    unfold oldK
    split
    · intro k hk
      by_cases hm : (e.d - 1).toNat < K.length
      · rcases List.mem_or_eq_of_mem_set hk with hk | rfl
        · exact h k hk
        · refine Nat.le_trans (fgtL_len _ _ _ _ _) ?_
          rw [List.getD_eq_getElem?_getD, List.getElem?_eq_getElem hm]
          exact h _ (List.getElem_mem hm)
      · rw [List.set_eq_of_length_le (by omega)] at hk
        exact h k hk
    · exact h
theorem lown_cellx {B : Nat} {w : World} {E : TypeId} {g n' cap : Nat} {l : List Lr} (h : ROwn lrS B w E (.slice (some ⟨g, 0, none⟩) n' cap) l) (k : Nat) (hk : k < l.length) {up : Bool} {ep sq : Int} {v : Value} (hx : l[k] = ⟨up, ep, sq, v⟩) : C4 w g (k * 4) up ep sq v := by
  have h1 : C4 w g (k * 4) l[k].up l[k].ep l[k].sq l[k].v := ⟨h.cellAt k hk 0 _ rfl, h.cellAt k hk 1 _ rfl, h.cellAt k hk 2 _ rfl, h.cellAt k hk 3 _ rfl⟩
  rw [hx] at h1
  exact h1
theorem fgtK_at {K : List Lk} {d : Int} {m : Nat} {k : Lk} (hm : m < K.length) (hd : d = (m : Int) + 1) (hk : K[m] = k) (id : Int) : K.set (d - 1).toNat (fgtK (K.getD (d - 1).toNat lk0) id) = K.set m (fgtK k id) := by
  rw [(getD_at hm hd hk).1, (getD_at hm hd hk).2]
theorem oldEs_step (nw : Int) (E : List Ev) (j : Nat) {e : Ev} (h : j < E.length) (he : E[j] = e) : (oldEs nw E j).set j (oldE nw e) = oldEs nw E (j + 1) := by
  unfold oldEs
  have h1 : ((E.take j).map (oldE nw)).length = j := by simp; omega
  rw [List.set_append, if_neg (by omega), h1, Nat.sub_self, List.drop_eq_getElem_cons h, List.set_cons_zero, List.take_succ_eq_append_getElem h, List.map_append, he]
  simp
theorem oldKs_step (nw : Int) (K : List Lk) (E : List Ev) (j : Nat) {e : Ev} (h : j < E.length) (he : E[j] = e) : oldKs nw K E (j + 1) = oldK nw (oldKs nw K E j) e := by
  unfold oldKs
  rw [List.take_succ_eq_append_getElem h, List.foldl_append, he]
  rfl
theorem oldKs_len (nw : Int) (K : List Lk) (E : List Ev) (j : Nat) : (oldKs nw K E j).length = K.length := by
  unfold oldKs
  generalize E.take j = L
  induction L generalizing K with
  | nil => rfl
  | cons e L ih =>
    rw [List.foldl_cons, ih]
    unfold oldK
    split <;> simp
theorem set_same' {α : Type} (xs : List α) (i : Nat) (v : α) (h : xs[i]? = some v) : xs.set i v = xs := by
  apply List.ext_getElem?
  intro k
  rw [List.getElem?_set]
  split
  · next e => subst e; split; exact h.symm; next h2 => rw [List.getElem?_eq_none (by omega)] at h; cases h
  · rfl
/-- a message's status was written in its row -/
theorem eown_status {B : Nat} {w : World} {E : TypeId} {g cap n' : Nat} {l : List Ev} (h : ROwn evS B w E (.slice (some ⟨g, 0, none⟩) n' cap) l) (k : Nat) (hk : k < l.length) (s : Int) :
    ROwn evS B (w.setCell ⟨g, k * 9 + 8, none⟩ (.int .i64 s)) E (.slice (some ⟨g, 0, none⟩) n' cap) (l.set k (withS l[k] s)) ∧ w.grownBy (w.setCell ⟨g, k * 9 + 8, none⟩ (.int .i64 s)) (some g) := by
  have hn : n' = l.length := h.is.1
  subst hn
  unfold ROwn at *
  have h1 := World.ownsRow.stored h (k * 9 + 8) (.int .i64 s)
  refine ⟨?_, h1.2⟩
  have e1 := flatF_set evS l k (withS l[k] s) hk
  have hg : ∀ i, i < 9 → (flatF evS l)[k * 9 + i]? = (evS.f l[k])[i]? := fun i hi => flatF_get evS l k hk i hi
  have e2 : setMany (flatF evS l) (k * evS.n) (evS.f (withS l[k] s)) = (flatF evS l).set (k * 9 + 8) (.int .i64 s) := by
    show setMany (flatF evS l) (k * 9) [.int .i64 l[k].i, .int .i64 l[k].d, .int .i64 l[k].c, .string l[k].b, .int .i64 l[k].a, .int .i64 l[k].t, .int .i64 l[k].r, .int .i64 l[k].n, .int .i64 s] = _
    simp only [setMany]
    rw [set_same' _ (k * 9) _ (by have h0 := hg 0 (by omega); rw [Nat.add_zero] at h0; exact h0)]
    rw [set_same' _ (k * 9 + 1) _ (hg 1 (by omega))]
    rw [set_same' _ (k * 9 + 1 + 1) _ (hg 2 (by omega))]
    rw [set_same' _ (k * 9 + 1 + 1 + 1) _ (hg 3 (by omega))]
    rw [set_same' _ (k * 9 + 1 + 1 + 1 + 1) _ (hg 4 (by omega))]
    rw [set_same' _ (k * 9 + 1 + 1 + 1 + 1 + 1) _ (hg 5 (by omega))]
    rw [set_same' _ (k * 9 + 1 + 1 + 1 + 1 + 1 + 1) _ (hg 6 (by omega))]
    rw [set_same' _ (k * 9 + 1 + 1 + 1 + 1 + 1 + 1 + 1) _ (hg 7 (by omega))]
  rw [← e1, e2, List.length_set]
  exact h1.1

theorem eown_statusx {B : Nat} {w : World} {E : TypeId} {g cap n' : Nat} {l : List Ev} (h : ROwn evS B w E (.slice (some ⟨g, 0, none⟩) n' cap) l) (k : Nat) (hk : k < l.length) {e : Ev} (he : l[k] = e) (s : Int) :
    ROwn evS B (w.setCell ⟨g, k * 9 + 8, none⟩ (.int .i64 s)) E (.slice (some ⟨g, 0, none⟩) n' cap) (l.set k (withS e s)) ∧ w.grownBy (w.setCell ⟨g, k * 9 + 8, none⟩ (.int .i64 s)) (some g) := by
  subst he
  exact eown_status h k hk s

set_option maxRecDepth 100000 in
set_option maxHeartbeats 8000000 in
theorem specStepOld_any (w : World) (de qu wi ti qa bu le pb pc pj pt nw la : Int) (ea : Option Addr) (en ec : Nat) (ka : Option Addr) (kn kc : Nat) (tu : Int) (fa : Option Addr) (fn fc : Nat) (ra : Option Addr) (rn rc : Nat) (tk ac dr : Int) (E : List Ev) (K : List Lk) (F R : List Int) (h : GIs w.heap.size w ea en ka kn fa fn ra rn E K F R) (hs : Small en kn fn rn K) :
    Calls Try.prog 25 #[.agg #[.int .i64 de, .int .i64 qu, .int .i64 wi, .int .i64 ti, .int .i64 qa, .int .i64 bu, .int .i64 le, .int .i64 pb, .int .i64 pc, .int .i64 pj, .int .i64 pt, .int .i64 nw, .int .i64 la, .slice ea en ec, .slice ka kn kc, .int .i64 tu, .slice fa fn fc, .slice ra rn rc, .int .i64 tk, .int .i64 ac, .int .i64 dr]] w fun e w' => GEnd w w' de qu wi ti qa bu le pb pc pj pt nw la tu tk ac dr (sel (gokB de qu wi ti qa bu le pb pc pj pt nw la en kn tu fn rn tk ac dr E K F R) (E.map (oldE nw)) E) (sel (gokB de qu wi ti qa bu le pb pc pj pt nw la en kn tu fn rn tk ac dr E K F R) (oldKs nw K E E.length) K) F R e := by
  obtain ⟨W0, hW0⟩ : ∃ W, W = (w.alloc (.cells #[.int .i64 de, .int .i64 qu, .int .i64 wi, .int .i64 ti, .int .i64 qa, .int .i64 bu, .int .i64 le, .int .i64 pb, .int .i64 pc, .int .i64 pj, .int .i64 pt, .int .i64 nw, .int .i64 la, .slice ea en ec, .slice ka kn kc, .int .i64 tu, .slice fa fn fc, .slice ra rn rc, .int .i64 tk, .int .i64 ac, .int .i64 dr] 38)).alloc (.cells #[.int .i64 0, .int .i64 0, .int .i64 0, .int .i64 0, .int .i64 0, .int .i64 0, .int .i64 0, .int .i64 0, .int .i64 0, .int .i64 0, .int .i64 0, .int .i64 0, .int .i64 0, .slice none 0 0, .slice none 0 0, .int .i64 0, .slice none 0 0, .slice none 0 0, .int .i64 0, .int .i64 0, .int .i64 0] 38) := ⟨_, rfl⟩
  have hb01 := bOne w (.cells #[.int .i64 de, .int .i64 qu, .int .i64 wi, .int .i64 ti, .int .i64 qa, .int .i64 bu, .int .i64 le, .int .i64 pb, .int .i64 pc, .int .i64 pj, .int .i64 pt, .int .i64 nw, .int .i64 la, .slice ea en ec, .slice ka kn kc, .int .i64 tu, .slice fa fn fc, .slice ra rn rc, .int .i64 tk, .int .i64 ac, .int .i64 dr] 38)
  have hb02 := bOne (w.alloc (.cells #[.int .i64 de, .int .i64 qu, .int .i64 wi, .int .i64 ti, .int .i64 qa, .int .i64 bu, .int .i64 le, .int .i64 pb, .int .i64 pc, .int .i64 pj, .int .i64 pt, .int .i64 nw, .int .i64 la, .slice ea en ec, .slice ka kn kc, .int .i64 tu, .slice fa fn fc, .slice ra rn rc, .int .i64 tk, .int .i64 ac, .int .i64 dr] 38)) (.cells #[.int .i64 0, .int .i64 0, .int .i64 0, .int .i64 0, .int .i64 0, .int .i64 0, .int .i64 0, .int .i64 0, .int .i64 0, .int .i64 0, .int .i64 0, .int .i64 0, .int .i64 0, .slice none 0 0, .slice none 0 0, .int .i64 0, .slice none 0 0, .slice none 0 0, .int .i64 0, .int .i64 0, .int .i64 0] 38)
  have HA : Hid (Box W0 w.heap.size 38 [.int .i64 de, .int .i64 qu, .int .i64 wi, .int .i64 ti, .int .i64 qa, .int .i64 bu, .int .i64 le, .int .i64 pb, .int .i64 pc, .int .i64 pj, .int .i64 pt, .int .i64 nw, .int .i64 la, .slice ea en ec, .slice ka kn kc, .int .i64 tu, .slice fa fn fc, .slice ra rn rc, .int .i64 tk, .int .i64 ac, .int .i64 dr]) := Lib.hid (by rw [hW0]; exact (Box.new w [.int .i64 de, .int .i64 qu, .int .i64 wi, .int .i64 ti, .int .i64 qa, .int .i64 bu, .int .i64 le, .int .i64 pb, .int .i64 pc, .int .i64 pj, .int .i64 pt, .int .i64 nw, .int .i64 la, .slice ea en ec, .slice ka kn kc, .int .i64 tu, .slice fa fn fc, .slice ra rn rc, .int .i64 tk, .int .i64 ac, .int .i64 dr] 38).below hb02)
  have HR : Hid (Box W0 (w.heap.size + 1) 38 [.int .i64 0, .int .i64 0, .int .i64 0, .int .i64 0, .int .i64 0, .int .i64 0, .int .i64 0, .int .i64 0, .int .i64 0, .int .i64 0, .int .i64 0, .int .i64 0, .int .i64 0, .slice none 0 0, .slice none 0 0, .int .i64 0, .slice none 0 0, .slice none 0 0, .int .i64 0, .int .i64 0, .int .i64 0]) := Lib.hid (by
    rw [hW0]
    have := Box.new (w.alloc (.cells #[.int .i64 de, .int .i64 qu, .int .i64 wi, .int .i64 ti, .int .i64 qa, .int .i64 bu, .int .i64 le, .int .i64 pb, .int .i64 pc, .int .i64 pj, .int .i64 pt, .int .i64 nw, .int .i64 la, .slice ea en ec, .slice ka kn kc, .int .i64 tu, .slice fa fn fc, .slice ra rn rc, .int .i64 tk, .int .i64 ac, .int .i64 dr] 38)) [.int .i64 0, .int .i64 0, .int .i64 0, .int .i64 0, .int .i64 0, .int .i64 0, .int .i64 0, .int .i64 0, .int .i64 0, .int .i64 0, .int .i64 0, .int .i64 0, .int .i64 0, .slice none 0 0, .slice none 0 0, .int .i64 0, .slice none 0 0, .slice none 0 0, .int .i64 0, .int .i64 0, .int .i64 0] 38
    simpa using this)
  have HL : Hid (Below w.heap.size w W0) := Lib.hid (by rw [hW0]; exact hb01.trans (hb02.mono (by simp)))
  have HS0 := Lib.hid (show W0.heap.size = w.heap.size + 1 + 1 by rw [hW0]; simp)
  have HWE := Lib.hid hW0
  have HG := Lib.hid h
  have HSM := Lib.hid hs
  have HT0 := Lib.hid (show GIs W0.heap.size W0 ea en ka kn fa fn ra rn E K F R from h.here HL.out)
  clear hW0 hb01 hb02 h hs
  go_enter Try.func25, Try.ntmps25
  go_upto_region 1 with fail
  rw [← HWE.out]
  clear HWE
  obtain ⟨B1, hB1⟩ : ∃ B, B = W0.heap.size := ⟨_, rfl⟩
  have HB1 := Lib.hid (show w.heap.size + 1 < B1 by rw [hB1, HS0.out]; omega)
  go_wp2_with (first | (refine wpList_load_box rfl _ 38 rfl rfl HA.out _ Try.underlying38 sizeGate ?_) | fail)
  refine (specGCopy_any _ de qu wi ti qa bu le pb pc pj pt nw la ea en ec ka kn kc tu fa fn fc ra rn rc tk ac dr E K F R HT0.out HSM.out).mono ?_
  rintro e w1 ⟨⟨ea1, ec1, ka1, kc1, fa1, fc1, ra1, rc1, vs0, rfl, ho⟩, hb⟩
  rw [← hB1] at ho
  obtain ⟨lE, hlE⟩ : ∃ l, l = E.length := ⟨_, rfl⟩
  obtain ⟨lK, hlK⟩ : ∃ l, l = K.length := ⟨_, rfl⟩
  obtain ⟨lF, hlF⟩ : ∃ l, l = F.length := ⟨_, rfl⟩
  obtain ⟨lR, hlR⟩ : ∃ l, l = R.length := ⟨_, rfl⟩
  rw [← hlE, ← hlK, ← hlF, ← hlR] at ho ⊢
  have HlE := Lib.hid hlE
  have HlK := Lib.hid hlK
  have HlF := Lib.hid hlF
  have HlR := Lib.hid hlR
  have HO := Lib.hid ho
  have HOO := Lib.hid ho
  have HBW := Lib.hid (show B1 ≤ w1.heap.size by rw [hB1]; exact hb.size)
  have HWB := Lib.hid HBW.out
  replace HA := Lib.hid (HA.out.below hb)
  replace HR := Lib.hid (HR.out.below hb)
  replace HL := Lib.hid (low_after HL.out hb)
  clear hb ho hlE hlK hlF hlR hB1 HS0 HT0
  obtain ⟨k3, hk3⟩ : ∃ k, k = w1.heap.size := ⟨_, rfl⟩
  go_upto_region 2 with (first | (refine wpList_store_box rfl _ _ 38 rfl rfl [.int .i64 de, .int .i64 qu, .int .i64 wi, .int .i64 ti, .int .i64 qa, .int .i64 bu, .int .i64 le, .int .i64 pb, .int .i64 pc, .int .i64 pj, .int .i64 pt, .int .i64 nw, .int .i64 la, .slice ea1 lE ec1, .slice ka1 lK kc1, .int .i64 tu, .slice fa1 lF fc1, .slice ra1 lR rc1, .int .i64 tk, .int .i64 ac, .int .i64 dr] rfl (Box.new _ [.int .i64 0, .int .i64 0, .int .i64 0, .int .i64 0, .int .i64 0, .int .i64 0, .int .i64 0, .int .i64 0, .int .i64 0, .int .i64 0, .int .i64 0, .int .i64 0, .int .i64 0, .slice none 0 0, .slice none 0 0, .int .i64 0, .slice none 0 0, .slice none 0 0, .int .i64 0, .int .i64 0, .int .i64 0] 38) sizeGate rfl rfl ?_; intro V0 hXb hgV hlV; have HX := Lib.hid hXb; have HBV := Lib.hid (hlV w1.heap.size w1 (Nat.le_refl _) (bOne w1 _)); clear hXb hgV hlV) | fail)
  simp only [Act.put]
  rw [← hk3] at HX ⊢
  have HK3 := Lib.hid (show B1 ≤ k3 by rw [hk3]; exact HBW.out)
  have HW1S := Lib.hid (HBV.out.size)
  clear hk3
  replace HA := Lib.hid (HA.out.below HBV.out)
  replace HR := Lib.hid (HR.out.below HBV.out)
  replace HL := Lib.hid (low_after HL.out HBV.out)
  replace HO := Lib.hid (HO.out.below HBV.out)
  replace HBW := Lib.hid (Nat.le_trans HBW.out HBV.out.size)
  clear HBV
  have HEL := Lib.hid HG.out.ev.row.hlen
  have HEN := Lib.hid (show en ≤ 1048576 from HSM.out.1)
  go_upto_region 3 with fail
  go_loopw [4, 5] (fun i s5 wr => ∃ (j : Nat) (vs : List Value), j ≤ en ∧ i = .int .i64 j ∧ Hid (j = 0 ∨ (gokB de qu wi ti qa bu le pb pc pj pt nw la en kn tu fn rn tk ac dr E K F R) = true) ∧ Hid (Below w.heap.size w wr) ∧ Hid (Box wr w.heap.size 38 [.int .i64 de, .int .i64 qu, .int .i64 wi, .int .i64 ti, .int .i64 qa, .int .i64 bu, .int .i64 le, .int .i64 pb, .int .i64 pc, .int .i64 pj, .int .i64 pt, .int .i64 nw, .int .i64 la, .slice ea en ec, .slice ka kn kc, .int .i64 tu, .slice fa fn fc, .slice ra rn rc, .int .i64 tk, .int .i64 ac, .int .i64 dr]) ∧ Hid (Box wr (w.heap.size + 1) 38 [.int .i64 0, .int .i64 0, .int .i64 0, .int .i64 0, .int .i64 0, .int .i64 0, .int .i64 0, .int .i64 0, .int .i64 0, .int .i64 0, .int .i64 0, .int .i64 0, .int .i64 0, .slice none 0 0, .slice none 0 0, .int .i64 0, .slice none 0 0, .slice none 0 0, .int .i64 0, .int .i64 0, .int .i64 0]) ∧ Hid (Box wr k3 38 [.int .i64 de, .int .i64 qu, .int .i64 wi, .int .i64 ti, .int .i64 qa, .int .i64 bu, .int .i64 le, .int .i64 pb, .int .i64 pc, .int .i64 pj, .int .i64 pt, .int .i64 nw, .int .i64 la, .slice ea1 lE ec1, .slice ka1 lK kc1, .int .i64 tu, .slice fa1 lF fc1, .slice ra1 lR rc1, .int .i64 tk, .int .i64 ac, .int .i64 dr]) ∧ Hid (GOwn B1 wr (.slice ea1 lE ec1) (.slice ka1 lK kc1) (.slice fa1 lF fc1) (.slice ra1 lR rc1) vs (oldEs nw E j) (oldKs nw K E j) F R) ∧ Hid (B1 ≤ wr.heap.size) ∧ Hid (w1.heap.size ≤ wr.heap.size)) (fun i _ _ => en - (intOf i).toNat)
  case atStart => exact ⟨0, vs0, by omega, rfl, Lib.hid (.inl rfl), HL, HA, HR, HX, Lib.hid (by rw [oldEs_zero]; exact HO.out), HBW, HW1S⟩
  case round =>
    obtain ⟨j, vs, hj, rfl, HJ0, HL, HA, HR, HX, HO, HBW, HW1S⟩ := hrel
    have c13 := HA.out.cell 13 _ rfl
    have hkm := HEN.out
    obtain ⟨EJ, hEJ⟩ : ∃ X, X = oldEs nw E j := ⟨_, rfl⟩
    obtain ⟨KJ, hKJ⟩ : ∃ X, X = oldKs nw K E j := ⟨_, rfl⟩
    rw [← hEJ, ← hKJ] at HO
    have HEJ := Lib.hid hEJ
    have HKJ := Lib.hid hKJ
    clear hEJ hKJ
    by_cases hlt : (j : Int) < (en : Int)
    · have hjl : j < E.length := by have := HEL.out; omega
      go_wp2_with (first | (refine wpList_loadg_box (by rfl) _ 38 rfl rfl HA.out _ Try.underlying38 sizeGate ?_) | fail)
      refine (specGateOk_any _ de qu wi ti qa bu le pb pc pj pt nw la ea en ec ka kn kc tu fa fn fc ra rn rc tk ac dr E K F R (HG.out.here HL.out)).mono ?_
      rintro e w2 ⟨⟨x, rfl, hx⟩, hb⟩
      have HGB := Lib.hid (gokB_of hx)
      have HXP := Lib.hid hx
      replace HA := Lib.hid (HA.out.below hb)
      replace HR := Lib.hid (HR.out.below hb)
      replace HX := Lib.hid (HX.out.below hb)
      replace HO := Lib.hid (HO.out.below hb)
      replace HL := Lib.hid (low_after HL.out hb)
      replace HBW := Lib.hid (Nat.le_trans HBW.out hb.size)
      replace HW1S := Lib.hid (Nat.le_trans HW1S.out hb.size)
      clear hb hx c13
      cases x with
      | false =>
        obtain rfl : j = 0 := by rcases HJ0.out with h | h; exact h; rw [HGB.out] at h; cases h
        go_wp2_with (first | (refine wpList_load_box rfl _ 38 rfl rfl HX.out _ Try.underlying38 sizeGate ?_) | (refine wpList_store_box rfl _ _ 38 rfl rfl [.int .i64 de, .int .i64 qu, .int .i64 wi, .int .i64 ti, .int .i64 qa, .int .i64 bu, .int .i64 le, .int .i64 pb, .int .i64 pc, .int .i64 pj, .int .i64 pt, .int .i64 nw, .int .i64 la, .slice ea1 lE ec1, .slice ka1 lK kc1, .int .i64 tu, .slice fa1 lF fc1, .slice ra1 lR rc1, .int .i64 tk, .int .i64 ac, .int .i64 dr] rfl HR.out sizeGate rfl rfl ?_; intro V hXb hgV hlV) | fail)
        rw [HGB.out, sel_no, sel_no]
        exact bodyPost_ret (v := .agg #[.int .i64 de, .int .i64 qu, .int .i64 wi, .int .i64 ti, .int .i64 qa, .int .i64 bu, .int .i64 le, .int .i64 pb, .int .i64 pc, .int .i64 pj, .int .i64 pt, .int .i64 nw, .int .i64 la, .slice ea1 lE ec1, .slice ka1 lK kc1, .int .i64 tu, .slice fa1 lF fc1, .slice ra1 lR rc1, .int .i64 tk, .int .i64 ac, .int .i64 dr]) (results_box _ Try.results25 rfl hXb _ Try.underlying38 sizeGate) rfl ⟨⟨ea1, ec1, ka1, kc1, fa1, fc1, ra1, rc1, vs, by rw [← HlE.out, ← HlK.out, ← HlF.out, ← HlR.out], by rw [← HlE.out, ← HlK.out, ← HlF.out, ← HlR.out]; have h := (HO.out.low hgV (by have := HB1.out; omega)).base (B' := w.heap.size) (by have := HB1.out; omega); rw [HEJ.out, HKJ.out, oldEs_zero] at h; exact h⟩, hlV w.heap.size w (by omega) HL.out⟩
      | true =>
        have HP := Lib.hid (HXP.out.1 rfl)
        clear HXP
        have hgood := (HP.out.2.2.2.2.1.2 j hjl).1
        have hkd := HP.out.2.2.2.1.1
        obtain ⟨b, off, i, d, c, bd, at_, t, r, n, s, rfl, hbl, hlj, hbd, hc9⟩ := (HG.out.ev.below HL.out).at j hjl
        rw [hlj] at hgood
        have hdr : 1 ≤ d ∧ d ≤ de := by have h1 := hgood.1; have h2 := hgood.2.2.2.1; unfold Evt.EOk at h1; dsimp only at h1 h2; omega
        have HSML := Lib.hid (show Evt.Sml at_ t from by have h1 := hgood.1; unfold Evt.EOk at h1; unfold Evt.Sml; dsimp only at h1; omega)
        have HLJ := Lib.hid hlj
        have HBDD := Lib.hid hbd
        clear hgood hlj hbd
        have c13 := HA.out.cell 13 _ rfl
        have c11 := HA.out.cell 11 _ rfl
        obtain ⟨c0, c1, c2, c3, c4, c5, c6, c7, c8⟩ := hc9
        obtain ⟨k5, hk5⟩ : ∃ k, k = w2.heap.size := ⟨_, rfl⟩
        go_upto_region 6 with fail
        obtain ⟨V5, hV5⟩ : ∃ V, V = w2.alloc (.cells #[.int .i64 i, .int .i64 d, .int .i64 c, .string bd, .int .i64 at_, .int .i64 t, .int .i64 r, .int .i64 n, .int .i64 s] 81) := ⟨_, rfl⟩
        have hb := bOne w2 (.cells #[.int .i64 i, .int .i64 d, .int .i64 c, .string bd, .int .i64 at_, .int .i64 t, .int .i64 r, .int .i64 n, .int .i64 s] 81)
        have HB5 := Lib.hid (show Box V5 k5 81 [.int .i64 i, .int .i64 d, .int .i64 c, .string bd, .int .i64 at_, .int .i64 t, .int .i64 r, .int .i64 n, .int .i64 s] by rw [hV5, hk5]; exact Box.new w2 [.int .i64 i, .int .i64 d, .int .i64 c, .string bd, .int .i64 at_, .int .i64 t, .int .i64 r, .int .i64 n, .int .i64 s] 81)
        rw [← hV5] at hb ⊢
        rw [← hk5]
        have HK5 := Lib.hid (show w1.heap.size ≤ k5 by rw [hk5]; exact HW1S.out)
        have HNE5 := Lib.hid (fun r' (hr : r' ∈ gRows (.slice ea1 lE ec1) (.slice ka1 lK kc1) (.slice fa1 lF fc1) (.slice ra1 lR rc1) vs EJ KJ F R) => ne_old (HO.out.rows.at_ r' hr) hk5)
        replace HA := Lib.hid (HA.out.below hb)
        replace HR := Lib.hid (HR.out.below hb)
        replace HX := Lib.hid (HX.out.below hb)
        replace HO := Lib.hid (HO.out.below hb)
        replace HL := Lib.hid (low_after HL.out hb)
        replace HBW := Lib.hid (Nat.le_trans HBW.out hb.size)
        replace HW1S := Lib.hid (Nat.le_trans HW1S.out hb.size)
        have d11 := HA.out.cell 11 _ rfl
        clear hb hV5 hk5 c13 c11 c0 c1 c2 c3 c4 c5 c6 c7 c8
        go_wp2_with (first | (refine wpList_load_box rfl _ 81 rfl rfl HB5.out _ Try.underlying81 sizeEvt ?_) | fail)
        refine (Evt.specOld_any i d c bd at_ t r n s nw _ HSML.out).mono ?_
        rintro e w3 ⟨rfl, hb⟩
        replace HA := Lib.hid (HA.out.below hb)
        replace HR := Lib.hid (HR.out.below hb)
        replace HX := Lib.hid (HX.out.below hb)
        replace HO := Lib.hid (HO.out.below hb)
        replace HL := Lib.hid (low_after HL.out hb)
        replace HBW := Lib.hid (Nat.le_trans HBW.out hb.size)
        replace HW1S := Lib.hid (Nat.le_trans HW1S.out hb.size)
        replace HB5 := Lib.hid (HB5.out.below hb)
        clear hb d11
        obtain ⟨x, hx⟩ : ∃ x, x = Evt.oldB at_ t s nw := ⟨_, rfl⟩
        rw [← hx]
        have HOL := Lib.hid (show isOld nw ⟨i, d, c, bd, at_, t, r, n, s⟩ = x from hx.symm)
        clear hx
        cases x with
        | false =>
          have HE2 := Lib.hid (show oldEs nw E (j + 1) = EJ by rw [← oldEs_step nw E j hjl HLJ.out, HEJ.out]; unfold oldE; rw [HOL.out]; exact set_same' _ _ _ (by rw [List.getElem?_eq_getElem (by rw [oldEs_len]; exact hjl), oldEs_at nw E j hjl, HLJ.out]; rfl))
          have HK2 := Lib.hid (show oldKs nw K E (j + 1) = KJ by rw [oldKs_step nw K E j hjl HLJ.out, HKJ.out]; unfold oldK; rw [HOL.out]; rfl)
          go_wp2_with fail
          go_roundw
          case rel => exact ⟨j + 1, vs, by omega, by go_num, Lib.hid (.inr HGB.out), HL, HA, HR, HX, Lib.hid (by rw [HE2.out, HK2.out]; exact HO.out), HBW, HW1S⟩
          case measure => simp [intOf]; omega
        | true =>
          obtain ⟨m, hmd⟩ : ∃ m : Nat, d = (m : Int) + 1 := ⟨(d - 1).toNat, by omega⟩
          have hwm : IntKind.i64.wrap (d - 1) = (m : Int) := by rw [show d - 1 = (m : Int) by omega]; exact IntWalk.i64_in _ (by have := HP.out.1.2.1; omega)
          have HKL := Lib.hid HG.out.lk.hlen
          have hKJL : KJ.length = K.length := by rw [HKJ.out, oldKs_len]
          have hEJL : EJ.length = E.length := by rw [HEJ.out, oldEs_len]
          have hmK : m < KJ.length := by have := HKL.out; omega
          have HMK := Lib.hid hmK
          have HMD := Lib.hid hmd
          obtain ⟨gk, hgk⟩ := own_some HOO.out.lkO (by rw [rawOf_len HOO.out.len]; omega)
          obtain ⟨rfl, hgw⟩ := hgk
          obtain ⟨ge, hge⟩ := own_some HOO.out.evO (by omega)
          obtain ⟨rfl, hgew⟩ := hge
          have HGW := Lib.hid hgw
          have HGEW := Lib.hid hgew
          have HGB1 := Lib.hid (show B1 ≤ gk from (World.ownsRow.lt HOO.out.lkO gk rfl).1)
          have HGEB := Lib.hid (show B1 ≤ ge from (World.ownsRow.lt HOO.out.evO ge rfl).1)
          have hjJ : j < EJ.length := by omega
          have HJJ := Lib.hid hjJ
          have HEA := Lib.hid (show EJ[j] = ⟨i, d, c, bd, at_, t, r, n, s⟩ from (List.getElem?_eq_some_iff.1 (by rw [HEJ.out, oldEs_atq nw E j hjl, HLJ.out])).2)
          have hcx := eown_cellx HO.out.evO j hjJ HEA.out
          have z8 := hcx.c8
          have f8 := HO.out.evO.frozenAt (j * 9 + 8)
          have o13 := HX.out.cell 13 _ rfl
          have hjE : (j : Int) < (lE : Int) := by have := HlE.out; omega
          have HST8 := Lib.hid (eown_statusx HO.out.evO j hjJ HEA.out 2)
          clear hcx hmd hgw hgew hKJL hEJL hmK
          go_upto_region 8 with fail
          clear z8 f8 o13
          obtain ⟨w7, hw7⟩ : ∃ V, V = w3.setCell ⟨ge, j * 9 + 8, none⟩ (.int .i64 2) := ⟨_, rfl⟩
          rw [← hw7] at HST8 ⊢
          clear hw7
          have hgx := HST8.out.2
          obtain ⟨E7, hE7⟩ : ∃ X, X = EJ.set j (withS ⟨i, d, c, bd, at_, t, r, n, s⟩ 2) := ⟨_, rfl⟩
          have HE7 := Lib.hid (show oldEs nw E (j + 1) = E7 by rw [← oldEs_step nw E j hjl HLJ.out, hE7]; unfold oldE; rw [HOL.out, if_pos rfl, HEJ.out])
          have HO7 := Lib.hid (show GOwn B1 w7 (.slice (some ⟨ge, 0, none⟩) lE ec1) (.slice (some ⟨gk, 0, none⟩) lK kc1) (.slice fa1 lF fc1) (.slice ra1 lR rc1) vs E7 KJ F R from HO.out.setEv hgx (by rw [hE7]; exact HST8.out.1) (.inl rfl) (by
            rw [hE7]
            intro e he
            rcases List.mem_or_eq_of_mem_set he with he | rfl
            · exact HO.out.body e he
            · exact HBDD.out))
          replace HA := Lib.hid (HA.out.grown hgx (by have := HGEB.out; have := HB1.out; simp; omega))
          replace HR := Lib.hid (HR.out.grown hgx (by have := HGEB.out; have := HB1.out; simp; omega))
          replace HX := Lib.hid (HX.out.grown hgx (ne_of_box (evR_at.2 HO.out.evO) HX.out ne_eg rfl))
          replace HB5 := Lib.hid (HB5.out.grown hgx (by have := HGEW.out; have := HK5.out; simp; omega))
          replace HL := Lib.hid (HL.out.grown hgx HL.out.size (fun z hz => by cases hz; have := HGEB.out; have := HB1.out; omega))
          replace HBW := Lib.hid (Nat.le_trans HBW.out hgx.size)
          replace HW1S := Lib.hid (Nat.le_trans HW1S.out hgx.size)
          clear hgx HST8 hE7
          replace HO := HO7
          clear HO7
          have hvl : m < vs.length := by rw [HO.out.len]; exact HMK.out
          obtain ⟨up, ep, sq, y, hky⟩ : ∃ up ep sq y, KJ[m]'HMK.out = ⟨up, ep, sq, y⟩ := ⟨_, _, _, _, rfl⟩
          have HKY := Lib.hid hky
          have hfly := HO.out.fly m HMK.out hvl
          rw [show (KJ[m]'HMK.out).l = y from congrArg Lk.l hky] at hfly
          obtain ⟨fa0, fc0, hvm⟩ := hfly.shape
          obtain ⟨fl, hfl⟩ : ∃ l, l = y.length := ⟨_, rfl⟩
          rw [← hfl] at hvm
          have HC4 := Lib.hid (lown_cellx HO.out.lkO m (by rw [rawOf_len HO.out.len]; exact HMK.out) (show (rawOf KJ vs)[m]'(by rw [rawOf_len HO.out.len]; exact HMK.out) = ⟨up, ep, sq, .slice fa0 fl fc0⟩ from lr_of (rawOf_get m _ HMK.out hvl) hky hvm))
          have HY := Lib.hid (show YIs w7.heap.size w7 fa0 fl y from by rw [hvm] at hfly; exact hfly.isN)
          have HYF := Lib.hid (show y.length ≤ 1048576 from by have h1 := oldKs_small nw K E j HSM.out.2.2.1; rw [← HKJ.out] at h1; have h2 := h1 _ (List.getElem_mem HMK.out); rw [show (KJ[m]'HMK.out).l = y from congrArg Lk.l hky] at h2; exact h2)
          clear hfly hvm hfl hky hvl
          obtain ⟨L, hL⟩ : ∃ L, L = fgtL up ep sq y i := ⟨_, rfl⟩
          obtain ⟨lL, hlL⟩ : ∃ l, l = L.length := ⟨_, rfl⟩
          have HLL := Lib.hid hL
          have HlL := Lib.hid hlL
          clear hL hlL
          have hmlk : (m : Int) < (lK : Int) := by have h1 := HMK.out; have h2 := HlK.out; rw [HKJ.out, oldKs_len] at h1; omega
          have HQ := Lib.hid (below_drew' (Below.refl w7.heap.size w7))
          replace HA := Lib.hid (HA.out.below HQ.out)
          replace HR := Lib.hid (HR.out.below HQ.out)
          replace HX := Lib.hid (HX.out.below HQ.out)
          replace HO := Lib.hid (HO.out.below HQ.out)
          replace HL := Lib.hid (low_after HL.out HQ.out)
          replace HBW := Lib.hid (Nat.le_trans HBW.out HQ.out.size)
          replace HW1S := Lib.hid (Nat.le_trans HW1S.out HQ.out.size)
          replace HB5 := Lib.hid (HB5.out.below HQ.out)
          replace HC4 := Lib.hid (c4_below HC4.out HQ.out)
          replace HY := Lib.hid (HY.out.here HQ.out)
          refine wp_region_held_drew (S := fun w' => (w'.cell? ⟨k3, 14, none⟩ = some (.slice (some ⟨gk, 0, none⟩) lK kc1) ∧ w'.cell? ⟨k5, 0, none⟩ = some (.int .i64 i) ∧ w'.cell? ⟨k5, 1, none⟩ = some (.int .i64 d))) (by kernel_rfl) ⟨HX.out.cell 14 _ rfl, HB5.out.cell 0 _ rfl, HB5.out.cell 1 _ rfl⟩ (fun hHeld => ?_)
          obtain ⟨wd, hwd⟩ : ∃ x, x = w7.drew := ⟨_, rfl⟩
          rw [← hwd] at HA HR HX HO HL HBW HW1S HB5 HC4 HY hHeld ⊢
          clear HQ hwd
          refine wpAnyH_take (i := 0) (oi := { dst := some _, op := _, type := _, pos := _, after := _, guard := _ }) (v := ?_) rfl (by kernel_rfl) (by kernel_rfl) (by kernel_rfl) (fun _ _ _ h => h) ?_ (by with_reducible assumption) ?_
          rotate_left 1
          focus (refine Or.inl ⟨by rfl, ?_⟩; intro wq hSw; go_simp; try with_reducible rfl)
          try simp only [Act.put, List.setIfInBounds_toArray, List.set_cons_zero, List.set_cons_succ]
          refine wpAnyH_take (i := 1) (oi := { dst := some _, op := _, type := _, pos := _, after := _, guard := _ }) (v := ?_) rfl (by kernel_rfl) (by kernel_rfl) (by kernel_rfl) (fun _ _ _ h => h) ?_ (by with_reducible assumption) ?_
          rotate_left 1
          focus (refine Or.inl ⟨by rfl, ?_⟩; intro wq hSw; have q0 := hSw.1; go_simp; try with_reducible rfl)
          try simp only [Act.put, List.setIfInBounds_toArray, List.set_cons_zero, List.set_cons_succ]
          refine wpAnyH_take (i := 2) (oi := { dst := some _, op := _, type := _, pos := _, after := _, guard := _ }) (v := ?_) rfl (by kernel_rfl) (by kernel_rfl) (by kernel_rfl) (fun _ _ _ h => h) ?_ (by with_reducible assumption) ?_
          rotate_left 1
          focus (refine Or.inl ⟨by rfl, ?_⟩; intro wq hSw; go_simp; try with_reducible rfl)
          try simp only [Act.put, List.setIfInBounds_toArray, List.set_cons_zero, List.set_cons_succ]
          refine wpAnyH_take (i := 3) (oi := { dst := some _, op := _, type := _, pos := _, after := _, guard := _ }) (v := ?_) rfl (by kernel_rfl) (by kernel_rfl) (by kernel_rfl) (fun _ _ _ h => h) ?_ (by with_reducible assumption) ?_
          rotate_left 1
          focus (refine Or.inl ⟨by rfl, ?_⟩; intro wq hSw; have q0 := hSw.2.2; go_simp; try with_reducible rfl)
          try simp only [Act.put, List.setIfInBounds_toArray, List.set_cons_zero, List.set_cons_succ]
          refine wpAnyH_take (i := 4) (oi := { dst := some _, op := _, type := _, pos := _, after := _, guard := _ }) (v := ?_) rfl (by kernel_rfl) (by kernel_rfl) (by kernel_rfl) (fun _ _ _ h => h) ?_ (by with_reducible assumption) ?_
          rotate_left 1
          focus (refine Or.inl ⟨by rfl, ?_⟩; intro wq hSw; go_simp; try with_reducible rfl)
          try simp only [Act.put, List.setIfInBounds_toArray, List.set_cons_zero, List.set_cons_succ]
          refine wpAnyH_take (i := 5) (oi := { dst := some _, op := _, type := _, pos := _, after := _, guard := _ }) (v := ?_) rfl (by kernel_rfl) (by kernel_rfl) (by kernel_rfl) (fun _ _ _ h => h) ?_ (by with_reducible assumption) ?_
          rotate_left 1
          focus (refine Or.inl ⟨by rfl, ?_⟩; intro wq hSw; go_simp; try with_reducible rfl)
          try simp only [Act.put, List.setIfInBounds_toArray, List.set_cons_zero, List.set_cons_succ]
          refine wpAnyH_take (i := 6) (oi := { dst := some _, op := _, type := _, pos := _, after := _, guard := _ }) (v := ?_) rfl (by kernel_rfl) (by kernel_rfl) (by kernel_rfl) (fun _ _ _ h => h) ?_ (by with_reducible assumption) ?_
          rotate_left 1
          focus (refine Or.inl ⟨by rfl, ?_⟩; intro wq hSw; have q0 := hSw.1; go_simp; try with_reducible rfl)
          try simp only [Act.put, List.setIfInBounds_toArray, List.set_cons_zero, List.set_cons_succ]
          refine wpAnyH_take (i := 7) (oi := { dst := some _, op := _, type := _, pos := _, after := _, guard := _ }) (v := ?_) rfl (by kernel_rfl) (by kernel_rfl) (by kernel_rfl) (fun _ _ _ h => h) ?_ (by with_reducible assumption) ?_
          rotate_left 1
          focus (refine Or.inl ⟨by rfl, ?_⟩; intro wq hSw; go_simp; try with_reducible rfl)
          try simp only [Act.put, List.setIfInBounds_toArray, List.set_cons_zero, List.set_cons_succ]
          refine wpAnyH_take (i := 8) (oi := { dst := some _, op := _, type := _, pos := _, after := _, guard := _ }) (v := ?_) rfl (by kernel_rfl) (by kernel_rfl) (by kernel_rfl) (fun _ _ _ h => h) ?_ (by with_reducible assumption) ?_
          rotate_left 1
          focus (refine Or.inl ⟨by rfl, ?_⟩; intro wq hSw; have q0 := hSw.2.2; go_simp; try with_reducible rfl)
          try simp only [Act.put, List.setIfInBounds_toArray, List.set_cons_zero, List.set_cons_succ]
          refine wpAnyH_take (i := 9) (oi := { dst := some _, op := _, type := _, pos := _, after := _, guard := _ }) (v := ?_) rfl (by kernel_rfl) (by kernel_rfl) (by kernel_rfl) (fun _ _ _ h => h) ?_ (by with_reducible assumption) ?_
          rotate_left 1
          focus (refine Or.inl ⟨by rfl, ?_⟩; intro wq hSw; go_simp; try with_reducible rfl)
          try simp only [Act.put, List.setIfInBounds_toArray, List.set_cons_zero, List.set_cons_succ]
          refine wpAnyH_take (i := 10) (oi := { dst := some _, op := _, type := _, pos := _, after := _, guard := _ }) (v := ?_) rfl (by kernel_rfl) (by kernel_rfl) (by kernel_rfl) (fun _ _ _ h => h) ?_ (by with_reducible assumption) ?_
          rotate_left 1
          focus (refine Or.inl ⟨by rfl, ?_⟩; intro wq hSw; go_simp; try with_reducible rfl)
          try simp only [Act.put, List.setIfInBounds_toArray, List.set_cons_zero, List.set_cons_succ]
          refine wpAnyH_take (i := 12) (oi := { dst := some _, op := _, type := _, pos := _, after := _, guard := _ }) (v := ?_) rfl (by kernel_rfl) (by kernel_rfl) (by kernel_rfl) (fun _ _ _ h => h) ?_ (by with_reducible assumption) ?_
          rotate_left 1
          focus (refine Or.inl ⟨by rfl, ?_⟩; intro wq hSw; go_simp; try with_reducible rfl)
          try simp only [Act.put, List.setIfInBounds_toArray, List.set_cons_zero, List.set_cons_succ]
          refine wpAnyH_take (i := 13) (oi := { dst := some _, op := _, type := _, pos := _, after := _, guard := _ }) (v := ?_) rfl (by kernel_rfl) (by kernel_rfl) (by kernel_rfl) (fun _ _ _ h => h) ?_ (by with_reducible assumption) ?_
          rotate_left 1
          focus (refine Or.inl ⟨by rfl, ?_⟩; intro wq hSw; have q0 := hSw.2.1; go_simp; try with_reducible rfl)
          try simp only [Act.put, List.setIfInBounds_toArray, List.set_cons_zero, List.set_cons_succ]
          refine wpAnyH_ready (rs := [11]) (by kernel_rfl) (by simp) ?_
          refine AllReadyH.cons rfl (fun KA hKA => ?_) AllReadyH.nil
          obtain ⟨z0, z1, z2, z3⟩ := HC4.out
          go_simp
          clear z0 z1 z2 z3
          refine hKA.out _ _ (⟨HX.out.cell 14 _ rfl, HB5.out.cell 0 _ rfl, HB5.out.cell 1 _ rfl⟩) (fun hHeld => ?_)
          clear hKA
          try simp only [Act.put, List.setIfInBounds_toArray, List.set_cons_zero, List.set_cons_succ]
          refine wpAnyH_ready (rs := [14]) (by kernel_rfl) (by simp) ?_
          refine AllReadyH.cons rfl (fun KC hKC => ?_) AllReadyH.nil
          go_simp
          refine (Lnk.specForgetC_any _ fa0 fl fc0 up ep sq y i HY.out (by have := HYF.out; have := HY.out.hlen; omega)).mono ?_
          rintro e v1 ⟨⟨a2, cap2, rfl, hoy⟩, hb⟩
          rw [← HLL.out, ← HlL.out] at hoy ⊢
          have HRW := Lib.hid (HO.out.rows.new (r := flR (.slice a2 lL cap2) L) hb hoy HBW.out)
          replace HA := Lib.hid (HA.out.below hb)
          replace HR := Lib.hid (HR.out.below hb)
          replace HX := Lib.hid (HX.out.below hb)
          replace HO := Lib.hid (HO.out.below hb)
          replace HL := Lib.hid (low_after HL.out hb)
          replace HBW := Lib.hid (Nat.le_trans HBW.out hb.size)
          replace HW1S := Lib.hid (Nat.le_trans HW1S.out hb.size)
          replace HB5 := Lib.hid (HB5.out.below hb)
          clear hb hoy hHeld HC4 HY
          dsimp only
          refine hKC.out _ _ (⟨HX.out.cell 14 _ rfl, HB5.out.cell 0 _ rfl, HB5.out.cell 1 _ rfl⟩) (fun hHeld => ?_)
          clear hKC
          try simp only [Act.put, List.setIfInBounds_toArray, List.set_cons_zero, List.set_cons_succ]
          refine wpAnyH_take (i := 15) (oi := { dst := some _, op := _, type := _, pos := _, after := _, guard := _ }) (v := ?_) rfl (by kernel_rfl) (by kernel_rfl) (by kernel_rfl) (fun _ _ _ h => h) ?_ (by with_reducible assumption) ?_
          rotate_left 1
          focus (refine Or.inl ⟨by rfl, ?_⟩; intro wq hSw; go_simp; try with_reducible rfl)
          try simp only [Act.put, List.setIfInBounds_toArray, List.set_cons_zero, List.set_cons_succ]
          refine wpAnyH_ready (rs := [16]) (by kernel_rfl) (by simp) ?_
          refine AllReadyH.cons rfl (fun KS hKS => ?_) AllReadyH.nil
          have hmr : m < (rawOf KJ vs).length := by rw [rawOf_len HO.out.len]; exact HMK.out
          obtain ⟨⟨z0, z1, z2, z3, hzz, e0, e1, e2, e3⟩, f0, f1, f2, f3⟩ := lown_at HO.out.lkO m hmr
          have hst := lown_set HO.out.lkO m hmr up ep sq (.slice a2 lL cap2)
          have HST := Lib.hid hst
          clear hst hzz hmr
          go_simp
          clear e0 e1 e2 e3 f0 f1 f2 f3 z0 z1 z2 z3
          obtain ⟨v4, hv4⟩ : ∃ V, V = ((((v1.setCell ⟨gk, m * 4, none⟩ (.bool up)).setCell ⟨gk, m * 4 + 1, none⟩ (.int .i64 ep)).setCell ⟨gk, m * 4 + 2, none⟩ (.int .i64 sq)).setCell ⟨gk, m * 4 + 3, none⟩ (.slice a2 lL cap2)) := ⟨_, rfl⟩
          rw [← hv4] at HST ⊢
          clear hv4
          have hgx := HST.out.2
          have HO4 := Lib.hid (GOwn.setLk (k := ⟨up, ep, sq, L⟩) m HO.out HRW.out hgx HST.out.1)
          replace HA := Lib.hid (HA.out.grown hgx (by have := HGB1.out; have := HB1.out; simp; omega))
          replace HR := Lib.hid (HR.out.grown hgx (by have := HGB1.out; have := HB1.out; simp; omega))
          replace HX := Lib.hid (HX.out.grown hgx (ne_of_box (lrR_at.2 HO.out.lkO) HX.out ne_lg rfl))
          replace HB5 := Lib.hid (HB5.out.grown hgx (by have := HGW.out; have := HK5.out; simp; omega))
          replace HL := Lib.hid (HL.out.grown hgx HL.out.size (fun z hz => by cases hz; have := HGB1.out; have := HB1.out; omega))
          replace HBW := Lib.hid (Nat.le_trans HBW.out hgx.size)
          replace HW1S := Lib.hid (Nat.le_trans HW1S.out hgx.size)
          clear hgx HST HO HRW hHeld
          refine hKS.out _ _ (⟨HX.out.cell 14 _ rfl, HB5.out.cell 0 _ rfl, HB5.out.cell 1 _ rfl⟩) (fun hHeld => ?_)
          clear hKS
          try simp only [Act.put, List.setIfInBounds_toArray, List.set_cons_zero, List.set_cons_succ]
          refine wpAnyH_done (by kernel_rfl) ?_ _
          have HK8 := Lib.hid (show oldKs nw K E (j + 1) = KJ.set m ⟨up, ep, sq, L⟩ by rw [oldKs_step nw K E j hjl HLJ.out, ← HKJ.out]; unfold oldK; rw [HOL.out, if_pos rfl]; rw [fgtK_at HMK.out HMD.out HKY.out]; rw [HLL.out]; rfl)
          go_wp2_with fail
          go_roundw
          case rel => exact ⟨j + 1, _, by omega, by go_num, Lib.hid (.inr HGB.out), HL, HA, HR, HX, Lib.hid (by rw [HE7.out, HK8.out]; exact HO4.out), HBW, HW1S⟩
          case measure => simp [intOf]; omega
    · have hjn : j = E.length := by have := HEL.out; omega
      have HE2 := Lib.hid (show sel (gokB de qu wi ti qa bu le pb pc pj pt nw la en kn tu fn rn tk ac dr E K F R) (E.map (oldE nw)) E = EJ by
        rcases HJ0.out with h | h
        · have h0 : E = [] := List.length_eq_zero_iff.1 (by omega)
          subst h0
          rw [HEJ.out]
          unfold sel
          split <;> simp [oldEs]
        · rw [h, sel_yes, HEJ.out, hjn, oldEs_all])
      have HK2 := Lib.hid (show sel (gokB de qu wi ti qa bu le pb pc pj pt nw la en kn tu fn rn tk ac dr E K F R) (oldKs nw K E E.length) K = KJ by
        rcases HJ0.out with h | h
        · have h0 : E = [] := List.length_eq_zero_iff.1 (by omega)
          subst h0
          rw [HKJ.out]
          unfold sel
          split <;> simp [oldKs]
        · rw [h, sel_yes, HKJ.out, hjn])
      have HlE2 := Lib.hid (show lE = EJ.length by rw [HEJ.out, oldEs_len]; exact HlE.out)
      have HlK2 := Lib.hid (show lK = KJ.length by rw [HKJ.out, oldKs_len]; exact HlK.out)
      clear hjn
      go_wp2_with (first | (refine wpList_load_box rfl _ 38 rfl rfl HX.out _ Try.underlying38 sizeGate ?_) | (refine wpList_store_box rfl _ _ 38 rfl rfl [.int .i64 de, .int .i64 qu, .int .i64 wi, .int .i64 ti, .int .i64 qa, .int .i64 bu, .int .i64 le, .int .i64 pb, .int .i64 pc, .int .i64 pj, .int .i64 pt, .int .i64 nw, .int .i64 la, .slice ea1 lE ec1, .slice ka1 lK kc1, .int .i64 tu, .slice fa1 lF fc1, .slice ra1 lR rc1, .int .i64 tk, .int .i64 ac, .int .i64 dr] rfl HR.out sizeGate rfl rfl ?_; intro V hXb hgV hlV) | fail)
      rw [HE2.out, HK2.out]
      exact bodyPost_ret (v := .agg #[.int .i64 de, .int .i64 qu, .int .i64 wi, .int .i64 ti, .int .i64 qa, .int .i64 bu, .int .i64 le, .int .i64 pb, .int .i64 pc, .int .i64 pj, .int .i64 pt, .int .i64 nw, .int .i64 la, .slice ea1 lE ec1, .slice ka1 lK kc1, .int .i64 tu, .slice fa1 lF fc1, .slice ra1 lR rc1, .int .i64 tk, .int .i64 ac, .int .i64 dr]) (results_box _ Try.results25 rfl hXb _ Try.underlying38 sizeGate) rfl ⟨⟨ea1, ec1, ka1, kc1, fa1, fc1, ra1, rc1, vs, by rw [← HlE2.out, ← HlK2.out, ← HlF.out, ← HlR.out], by rw [← HlE2.out, ← HlK2.out, ← HlF.out, ← HlR.out]; exact (HO.out.low hgV (by have := HB1.out; omega)).base (by have := HB1.out; omega)⟩, hlV w.heap.size w (by omega) HL.out⟩

end Go.Proofs.Ytlcllbdalabciaa.Gat
