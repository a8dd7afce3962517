/-
  A gate that came in, copied into rows of the call's own.
  A right gate: what the program asks and what the specification counts is the same.
  The program's copies of rows and of a gate; whether a gate is right.
-/
import Derived.Test.YtkndpkingmemoaaDoorMgk
import Derived.Test.YtkndpkingmemoaaDoorMgd
import Derived.Test.YtkndpkingmemoaaDoorMgi
import Derived.Test.YtkndpkingmemoaaDoorMgj
import Derived.Test.YtkndpkingmemoaaDoorMgb
import Derived.Test.YtkndpkingmemoaaDoorMgg
namespace Go.Proofs.YtkndpkingmemoaaDoor.Gat
open Go.RowKit
open Lnk (bOne bAfter IOwn IIs YOwn YIs below_keep below_drew' bcell low_after low_alloc grown_of_below)
set_option linter.unusedVariables false
set_option linter.unusedSimpArgs false

theorem flRs_one {K : List Lk} {vs : List Value} {j : Nat} (hv : vs.length = j) (h : j < K.length) (v : Value) : flRs (K.take (j + 1)) (vs ++ [v]) = flRs (K.take j) vs ++ [flR v K[j].l] := by
  rw [take_snocK h, flRs_snoc (by rw [List.length_take]; omega)]

end Go.Proofs.YtkndpkingmemoaaDoor.Gat
namespace Go.Proofs.YtkndpkingmemoaaDoor.Gat
open Lnk (idsL LOk)
set_option linter.unusedVariables false

theorem perm_of_sub : ∀ (K ids : List Int), K.Nodup → (∀ x ∈ K, x ∈ ids) → ids.length ≤ K.length → ids.Perm K
  | [], ids, _, _, hl => by
    have : ids = [] := List.length_eq_zero_iff.1 (by simpa using hl)
    subst this
    exact .nil
  | x :: K, ids, hn, hs, hl => by
    have hx := hs x (by simp)
    have hp := List.perm_cons_erase hx
    refine hp.trans (List.Perm.cons x (perm_of_sub K (ids.erase x) (List.nodup_cons.1 hn).2 (fun y hy => ?_) ?_))
    · have hne : y ≠ x := fun e => (List.nodup_cons.1 hn).1 (e ▸ hy)
      exact (List.mem_erase_of_ne hne).2 (hs y (List.mem_cons_of_mem _ hy))
    · have h1 := List.length_erase_of_mem hx
      have h2 := List.length_pos_of_mem hx
      simp at hl
      omega
theorem met_of_perm : ∀ (ids K : List Int), ids.Perm K → MetP K ids
  | [], K, h => by
    have : K = [] := by simpa using h
    subst this
    exact ⟨fun j hj => by simp at hj, rfl⟩
  | x :: ids, K, h => by
    have h1 : ids.Perm (K.erase x) := by simpa using h.erase x
    obtain ⟨a, b⟩ := met_of_perm ids (K.erase x) h1
    refine ⟨fun j hj => ?_, b⟩
    cases j with
    | zero => exact h.subset (by simp)
    | succ j => exact a j (by simp at hj; omega)
theorem perm_of_met : ∀ (ids K : List Int), MetP K ids → ids.Perm K
  | [], K, h => by
    have : K = [] := h.2
    subst this
    exact .nil
  | x :: ids, K, h => by
    have hx : x ∈ K := h.1 0 (by simp)
    have h1 : MetP (K.erase x) ids := ⟨fun j hj => h.1 (j + 1) (by simp; omega), h.2⟩
    exact (List.Perm.cons x (perm_of_met ids _ h1)).trans (List.perm_cons_erase hx).symm

/-- no id twice -/
def Inj (E : List Ev) : Prop := ∀ a b, (ha : a < E.length) → (hb : b < E.length) → E[a].i = E[b].i → a = b
theorem ahead_lt {E : List Ev} (h : ∀ k, (hk : k < E.length) → ahead E k < E[k].i) : ∀ (d a : Nat) (hb : a + d + 1 < E.length), E[a].i < E[a + d + 1].i
  | 0, a, hb => by
    have h1 := h (a + 1) hb
    rwa [ahead_next (by omega)] at h1
  | d + 1, a, hb => by
    have h1 := ahead_lt h d a (by omega)
    have h2 := h (a + d + 2) (by omega)
    rw [ahead_next (by omega)] at h2
    exact Int.lt_trans h1 h2
theorem inj_of {E : List Ev} (h : ∀ k, (hk : k < E.length) → ahead E k < E[k].i) : Inj E := by
  intro a b ha hb e
  rcases Nat.lt_trichotomy a b with hl | hl | hl
  · obtain ⟨d, rfl⟩ : ∃ d, b = a + d + 1 := ⟨b - a - 1, by omega⟩
    have := ahead_lt h d a hb
    omega
  · exact hl
  · obtain ⟨d, rfl⟩ : ∃ d, a = b + d + 1 := ⟨a - b - 1, by omega⟩
    have := ahead_lt h d b ha
    omega
theorem fill_count (pr : Ev → Bool) {E : List Ev} (hi : Inj E) : ∀ j, j ≤ E.length → (fillK pr (E.take j)).length = (E.take j).countP pr
  | 0, _ => by simp [fillK]
  | j + 1, hj => by
    have hl : j < E.length := hj
    rw [fillK_snoc pr E j hl, cnt_next hl]
    have hno : E[j].i ∉ fillK pr (E.take j) := by
      intro hm
      obtain ⟨e, he, h1, h2⟩ := (fillK_mem pr _ _).1 hm
      obtain ⟨k, hk, rfl⟩ := List.mem_iff_getElem.1 he
      have hk2 : k < j := by simp at hk; omega
      rw [List.getElem_take] at h2
      have := hi k j (by omega) hl h2
      omega
    have ih := fill_count pr hi j (by omega)
    unfold stepK
    rw [if_neg hno]
    split
    · simp; omega
    · omega
theorem mem_fill (pr : Ev → Bool) {E : List Ev} (hi : Inj E) (e : Ev) (he : e ∈ E) : e.i ∈ fillK pr E ↔ pr e = true := by
  rw [fillK_mem]
  constructor
  · rintro ⟨x, hx, h1, h2⟩
    obtain ⟨a, ha, rfl⟩ := List.mem_iff_getElem.1 hx
    obtain ⟨b, hb, rfl⟩ := List.mem_iff_getElem.1 he
    have := hi a b ha hb h2
    subst this
    exact h1
  · exact fun h => ⟨e, he, h, rfl⟩
theorem met_to (pr : Ev → Bool) {E : List Ev} (hi : Inj E) {ids : List Int} (h : MetP (fillK pr E) ids) : ids.length = E.countP pr ∧ ∀ e ∈ E, pr e = hasB ids e.i := by
  have hp := perm_of_met ids _ h
  refine ⟨?_, fun e he => ?_⟩
  · rw [hp.length_eq]
    have := fill_count pr hi E.length (Nat.le_refl _)
    rwa [List.take_length] at this
  · have hc : ids.count e.i = (fillK pr E).count e.i := hp.count_eq _
    have hn := fillK_nodup pr E
    cases hb : pr e with
    | true =>
      have hm := (mem_fill pr hi e he).2 hb
      symm
      rw [hasB_yes, hc]
      have h1 := List.count_pos_iff.2 hm
      have h2 := List.nodup_iff_count.1 hn e.i
      omega
    | false =>
      have hm : e.i ∉ fillK pr E := fun hm => by rw [(mem_fill pr hi e he).1 hm] at hb; cases hb
      have h0 : ids.count e.i = 0 := by rw [hc]; exact List.count_eq_zero.2 hm
      unfold hasB
      simp [h0]
theorem met_from (pr : Ev → Bool) {E : List Ev} {ids : List Int} (hi : Inj E) (hl : ids.length = E.countP pr) (h : ∀ e ∈ E, pr e = true → hasB ids e.i = true) : MetP (fillK pr E) ids := by
  refine met_of_perm _ _ (perm_of_sub _ _ (fillK_nodup pr E) (fun x hx => ?_) ?_)
  · obtain ⟨e, he, h1, rfl⟩ := (fillK_mem pr _ _).1 hx
    have := hasB_yes.1 (h e he h1)
    exact List.count_pos_iff.1 (by omega)
  · have := fill_count pr hi E.length (Nat.le_refl _)
    rw [List.take_length] at this
    omega
theorem fly_count (d : Int) (E : List Ev) : E.countP (isFly d) = cntN d 1 E := by
  unfold cntN
  congr 1
  funext e
  unfold isFly isDS
  exact Bool.and_comm _ _
def inN (n : Nat) (e : Ev) : Bool := (e.s == 3) && decide (1 ≤ e.d ∧ e.d ≤ (n : Int))
theorem cnt_split (n : Nat) : ∀ E : List Ev, E.countP (inN (n + 1)) = E.countP (inN n) + cntN ((n : Int) + 1) 3 E
  | [] => rfl
  | e :: E => by
    have ih := cnt_split n E
    unfold cntN at *
    rw [List.countP_cons, List.countP_cons, List.countP_cons, ih]
    have h1 : (if inN (n + 1) e then 1 else 0) = (if inN n e then 1 else 0) + (if isDS ((n : Int) + 1) 3 e then 1 else 0) := by
      unfold inN isDS
      cases hs : (e.s == 3) with
      | false => simp
      | true =>
        by_cases hd : e.d = (n : Int) + 1
        · rw [decide_eq_true (show 1 ≤ e.d ∧ e.d ≤ ((n + 1 : Nat) : Int) by omega), decide_eq_false (show ¬ (1 ≤ e.d ∧ e.d ≤ (n : Int)) by omega), show (e.d == (n : Int) + 1) = true by simp [hd]]
          rfl
        · rw [show (e.d == (n : Int) + 1) = false by simp [hd]]
          by_cases hn : 1 ≤ e.d ∧ e.d ≤ (n : Int)
          · rw [decide_eq_true (show 1 ≤ e.d ∧ e.d ≤ ((n + 1 : Nat) : Int) by omega), decide_eq_true hn]
            rfl
          · rw [decide_eq_false (show ¬ (1 ≤ e.d ∧ e.d ≤ ((n + 1 : Nat) : Int)) by omega), decide_eq_false hn]
            rfl
    omega
theorem dead_in (E : List Ev) : ∀ n : Nat, deadN E n = E.countP (inN n)
  | 0 => by
    symm
    refine List.countP_eq_zero.2 (fun e _ => ?_)
    unfold inN
    rw [decide_eq_false (show ¬ (1 ≤ e.d ∧ e.d ≤ ((0 : Nat) : Int)) by omega)]
    simp
  | n + 1 => by
    rw [cnt_split, ← dead_in E n]
    rfl
theorem dead_count {E : List Ev} {de : Int} (hd : 0 ≤ de) (h : ∀ e ∈ E, 1 ≤ e.d ∧ e.d ≤ de) : E.countP isDead = deadN E de.toNat := by
  rw [dead_in]
  refine List.countP_congr (fun e he => ?_)
  have h1 := h e he
  unfold inN isDead
  rw [decide_eq_true (show 1 ≤ e.d ∧ e.d ≤ (de.toNat : Int) by omega)]
  simp
theorem over_at {K : List Lk} {d : Int} {m : Nat} (hm : m < K.length) (hd : d = (m : Int) + 1) : overL K d = idsL K[m].l := by
  unfold overL
  rw [show (d - 1).toNat = m by omega, List.getD_eq_getElem?_getD, List.getElem?_eq_getElem hm]
  rfl
theorem fly_is {d : Int} {e : Ev} (h : e.d = d) : isFly d e = (e.s == 1) := by
  unfold isFly
  simp [h]

theorem gate_iff {de qu wi ti qa bu le pb pc pj pt nw la : Int} {en kn : Nat} {tu : Int} {fn rn : Nat} {tk ac dr : Int} {E : List Ev} {K : List Lk} {F R : List Int}
    (hE : E.length = en) (hK : K.length = kn) (hF : F.length = fn) (hR : R.length = rn) :
    gateP de qu wi ti qa bu le pb pc pj pt nw la en kn tu fn rn tk ac dr E K F R ↔ specP de qu wi ti qa bu le pb pc pj pt nw la en kn tu fn rn tk ac dr E K F R := by
  constructor
  · rintro ⟨hcf, hnw, hla, ⟨hen, hev⟩, hqu, ⟨hkd, hli⟩, ⟨ht0, ht1, hfd, hfs⟩, ⟨hrl, hmet⟩, hto⟩
    have hi : Inj E := inj_of (fun k hk => (hev k hk).2.1)
    have hdd : ∀ e ∈ E, 1 ≤ e.d ∧ e.d ≤ de := fun e he => by
      obtain ⟨k, hk, rfl⟩ := List.mem_iff_getElem.1 he
      have h1 := (hev k hk).1
      have h2 := (hev k hk).2.2.2.1
      unfold Evt.EOk at h1
      omega
    have hdead := met_to isDead hi hmet
    refine ⟨hcf, hnw, hla, ⟨hkd, hfd, fun k hk hk2 => ⟨(hli k hk).1, (hli k hk).2.1, hfs _ (List.getElem_mem _), hqu k (by omega), ?_⟩⟩, ⟨hen, fun k hk => ⟨hev k hk, ?_, hdead.2 _ (List.getElem_mem _)⟩⟩, ⟨ht0, by omega⟩, ⟨hrl, ?_⟩, hto⟩
    · have h1 := (met_to _ hi (hli k hk).2.2).1
      rw [fly_count] at h1
      unfold idsL at h1
      rwa [List.length_map] at h1
    · have h1 := hdd _ (List.getElem_mem hk)
      obtain ⟨m, hm⟩ : ∃ m : Nat, E[k].d = (m : Int) + 1 := ⟨(E[k].d - 1).toNat, by omega⟩
      have hmk : m < K.length := by omega
      rw [over_at hmk hm, ← fly_is hm]
      exact (met_to _ hi (hli m hmk).2.2).2 _ (List.getElem_mem hk)
    · rw [← hR, hdead.1]
      exact dead_count (by omega) hdd
  · rintro ⟨hcf, hnw, hla, ⟨hkd, hfd, hlk⟩, ⟨hen, hse⟩, ⟨ht0, ht1⟩, ⟨hrl, hrn⟩, hto⟩
    have hi : Inj E := inj_of (fun k hk => (hse k hk).1.2.1)
    have hdd : ∀ e ∈ E, 1 ≤ e.d ∧ e.d ≤ de := fun e he => by
      obtain ⟨k, hk, rfl⟩ := List.mem_iff_getElem.1 he
      have h1 := (hse k hk).1.1
      have h2 := (hse k hk).1.2.2.2.1
      unfold Evt.EOk at h1
      omega
    refine ⟨hcf, hnw, hla, ⟨hen, fun k hk => (hse k hk).1⟩, fun k hk => ?_, ⟨hkd, fun k hk => ?_⟩, ⟨ht0, by omega, hfd, fun x hx => ?_⟩, ⟨hrl, ?_⟩, hto⟩
    · exact (hlk k (by omega) (by omega)).2.2.2.1
    · have hk2 : k < F.length := by omega
      obtain ⟨h1, h2, h3, h4, h5⟩ := hlk k hk hk2
      refine ⟨h1, h2, met_from _ hi ?_ (fun e he hp => ?_)⟩
      · rw [fly_count]
        unfold idsL
        rwa [List.length_map]
      · obtain ⟨a, ha, rfl⟩ := List.mem_iff_getElem.1 he
        have hs : E[a].s = 1 ∧ E[a].d = (k : Int) + 1 := by
          unfold isFly at hp
          simpa using hp
        have h6 := (hse a ha).2.1
        rw [over_at hk hs.2] at h6
        rw [← h6]
        simp [hs.1]
    · obtain ⟨k, hk, rfl⟩ := List.mem_iff_getElem.1 hx
      exact (hlk k (by omega) hk).2.2.1
    · refine met_from _ hi ?_ (fun e he hp => ?_)
      · rw [hR, hrn]
        exact (dead_count (by omega) hdd).symm
      · obtain ⟨a, ha, rfl⟩ := List.mem_iff_getElem.1 he
        rw [← (hse a ha).2.2]
        exact hp
end Go.Proofs.YtkndpkingmemoaaDoor.Gat
namespace Go.Proofs.YtkndpkingmemoaaDoor.Gat
open Go.RowKit
open Lnk (bOne bAfter IOwn IIs YOwn YIs below_keep below_drew' bcell low_after low_alloc grown_of_below)
set_option linter.unusedVariables false
set_option linter.unusedSimpArgs false

set_option maxRecDepth 100000 in
set_option maxHeartbeats 1000000 in
theorem cloneEv_any (w : World) (a : Option Addr) (len cap : Nat) (l : List Ev) (h : EIs w.heap.size w a len l) (hlen : len ≤ 1048576) :
    Calls Tryd.prog 42 #[.slice a len cap] w fun e w' => RowEnd evS 55 w w' l e := by
  have hnil : ∀ (w : World) (a : Option Addr) (n c : Nat), (binOp .eql 29 (.slice a n c) (.slice none 0 0)).run Tryd.prog w = .ok (.bool a.isNone) w := fun w a n c => Lib.run_eql_slice_nil w _ _ a n c 0 0 Tryd.underlying29
  have hr : RIs evS w.heap.size w a len l := h.row
  cases a with
  | none =>
    obtain ⟨rfl, rfl⟩ := hr.none_nil
    clear h hr
    go_enter Tryd.func42, Tryd.ntmps42
    go_wp2_with fail
    go_ret
    exact ⟨⟨none, 0, rfl, ROwn.nil _ _ _⟩, Below.refl _ _⟩
  | some ad =>
    have hb := bOne w (.cells #[] 55)
    have HT := Lib.hid (hr.here hb)
    have HE := Lib.hid (show ROwn evS w.heap.size (w.alloc (.cells #[] 55)) 55 (.slice (some ⟨w.heap.size, 0, none⟩) 0 0) [] from ROwn.lit w _)
    have HL := Lib.hid hb
    have hll := hr.hlen
    have HLL := Lib.hid hll
    have HAP := Lib.hid (app_row (T := 29) (ty := 29) (cap := cap) evS Tryd.underlying29 infoEvent evZ (by decide) (by omega) HE.out HT.out (flat_ev_one l) (by simp; omega) (by simp))
    clear h hr hb hll
    go_enter Tryd.func42, Tryd.ntmps42
    go_wp2_with (first | (at_builtin; refine Lnk.wpList_append_run rfl _ _ 29 rfl _ _ rfl rfl HAP.out ?_; intro v' w6 happ) | fail)
    have ho : ROwn evS w.heap.size w6 55 v' l := happ.1
    obtain ⟨a', c', rfl⟩ := ho.shape
    have hb6 : Below w.heap.size w w6 := HL.out.grown happ.2.1 HL.out.size (fun k e => by cases e; exact Nat.le_refl _)
    go_ret
    exact ⟨⟨a', c', rfl, ho⟩, hb6⟩

theorem flat_lr_all {l : List Lr} (h : ∀ r ∈ l, r.v.oneCell' = true) : ∀ u ∈ flatF lrS l, u.oneCell' = true := by
  intro u hu
  obtain ⟨t, ht, hu⟩ := List.mem_flatMap.1 hu
  change u ∈ Lr.vals t at hu
  unfold Lr.vals at hu
  simp only [List.mem_cons, List.mem_nil_iff, or_false] at hu
  rcases hu with rfl | rfl | rfl | rfl
  · rfl
  · rfl
  · rfl
  · exact h t ht
theorem perm_last (a b c d : Rw) (L : List Rw) : (a :: b :: c :: d :: L).Perm (d :: c :: b :: a :: L) := perm_rev _ _ _ _ _
/-- links as they lie while they are copied one by one -/
def rawC (K : List Lk) (vs : List Value) (raw : List Lr) (j : Nat) : List Lr := rawOf (K.take j) vs ++ raw.drop j
theorem rawC_zero (K : List Lk) (raw : List Lr) : rawC K [] raw 0 = raw := by
  cases K <;> rfl
theorem rawC_len {K : List Lk} {vs : List Value} {raw : List Lr} {j : Nat} (hv : vs.length = j) (hr : raw.length = K.length) (h : j ≤ K.length) : (rawC K vs raw j).length = K.length := by
  unfold rawC
  rw [List.length_append, rawOf_len (by rw [List.length_take]; omega), List.length_take, List.length_drop]
  omega
theorem rawC_at {K : List Lk} {vs : List Value} {raw : List Lr} {j : Nat} (hv : vs.length = j) (hr : raw.length = K.length) (h : j < K.length) (h' : j < (rawC K vs raw j).length) : (rawC K vs raw j)[j] = raw[j] := by
  have e : (rawOf (K.take j) vs).length = j := by rw [rawOf_len (by rw [List.length_take]; omega), List.length_take]; omega
  have h2 : ∀ (M : List Lr) (hM : j < M.length), M = rawOf (K.take j) vs ++ raw.drop j → M[j] = raw[j] := fun M hM e2 => by
    subst e2
    rw [List.getElem_append_right (by omega)]
    simp [e]
  exact h2 _ h' rfl
theorem rawC_step {K : List Lk} {vs : List Value} {raw : List Lr} {j : Nat} (hv : vs.length = j) (hr : raw.length = K.length) (h : j < K.length) (v : Value) : (rawC K vs raw j).set j ⟨K[j].up, K[j].ep, K[j].sq, v⟩ = rawC K (vs ++ [v]) raw (j + 1) := by
  unfold rawC
  have e : (rawOf (K.take j) vs).length = j := by rw [rawOf_len (by rw [List.length_take]; omega), List.length_take]; omega
  rw [List.set_append, if_neg (by omega), e, Nat.sub_self, List.drop_eq_getElem_cons (by omega : j < raw.length), List.set_cons_zero, take_snocK h, rawOf_snoc (by rw [List.length_take]; omega), List.append_assoc]
  rfl
theorem rawC_all {K : List Lk} {vs : List Value} {raw : List Lr} (hr : raw.length = K.length) : rawC K vs raw K.length = rawOf K vs := by
  unfold rawC
  rw [List.take_length, List.drop_eq_nil_of_le (by omega), List.append_nil]

set_option maxRecDepth 100000 in
set_option maxHeartbeats 1000000 in
theorem cloneLr_any (w : World) (a : Option Addr) (len cap : Nat) (l : List Lr) (h : RIs lrS w.heap.size w a len l) (h1 : ∀ r ∈ l, r.v.oneCell' = true) (hlen : len ≤ 1048576) :
    Calls Tryd.prog 43 #[.slice a len cap] w fun e w' => RowEnd lrS 44 w w' l e := by
  have hnil : ∀ (w : World) (a : Option Addr) (n c : Nat), (binOp .eql 30 (.slice a n c) (.slice none 0 0)).run Tryd.prog w = .ok (.bool a.isNone) w := fun w a n c => Lib.run_eql_slice_nil w _ _ a n c 0 0 Tryd.underlying30
  have hr : RIs lrS w.heap.size w a len l := h
  cases a with
  | none =>
    obtain ⟨rfl, rfl⟩ := hr.none_nil
    clear h hr
    go_enter Tryd.func43, Tryd.ntmps43
    go_wp2_with fail
    go_ret
    exact ⟨⟨none, 0, rfl, ROwn.nil _ _ _⟩, Below.refl _ _⟩
  | some ad =>
    have hb := bOne w (.cells #[] 44)
    have HT := Lib.hid (hr.here hb)
    have HE := Lib.hid (show ROwn lrS w.heap.size (w.alloc (.cells #[] 44)) 44 (.slice (some ⟨w.heap.size, 0, none⟩) 0 0) [] from ROwn.lit w _)
    have HL := Lib.hid hb
    have hll := hr.hlen
    have HLL := Lib.hid hll
    have HAP := Lib.hid (app_row (T := 30) (ty := 30) (cap := cap) lrS Tryd.underlying30 infoLink lrZ (by decide) (by omega) HE.out HT.out (flat_lr_all h1) (by simp; omega) (by simp))
    clear h hr hb hll
    go_enter Tryd.func43, Tryd.ntmps43
    go_wp2_with (first | (at_builtin; refine Lnk.wpList_append_run rfl _ _ 30 rfl _ _ rfl rfl HAP.out ?_; intro v' w6 happ) | fail)
    have ho : ROwn lrS w.heap.size w6 44 v' l := happ.1
    obtain ⟨a', c', rfl⟩ := ho.shape
    have hb6 : Below w.heap.size w w6 := HL.out.grown happ.2.1 HL.out.size (fun k e => by cases e; exact Nat.le_refl _)
    go_ret
    exact ⟨⟨a', c', rfl, ho⟩, hb6⟩

set_option maxRecDepth 100000 in
set_option maxHeartbeats 1000000 in
theorem cloneIn_any (w : World) (a : Option Addr) (len cap : Nat) (l : List Int) (h : IIs w.heap.size w a len l) (hm : len ≤ maxLen) (hlen : len ≤ 1048576) :
    Calls Tryd.prog 45 #[.slice a len cap] w fun e w' => IntEnd w w' l e := by
  have hnil : ∀ (w : World) (a : Option Addr) (n c : Nat), (binOp .eql 31 (.slice a n c) (.slice none 0 0)).run Tryd.prog w = .ok (.bool a.isNone) w := fun w a n c => Lib.run_eql_slice_nil w _ _ a n c 0 0 Tryd.underlying31
  have hr : RIs inS w.heap.size w a len l := iis_row h hm
  cases a with
  | none =>
    obtain ⟨rfl, rfl⟩ := hr.none_nil
    clear h hr
    go_enter Tryd.func45, Tryd.ntmps45
    go_wp2_with fail
    go_ret
    exact ⟨⟨none, 0, rfl, Lnk.IOwn.nil _ _⟩, Below.refl _ _⟩
  | some ad =>
    have hb := bOne w (.cells #[] 3)
    have HT := Lib.hid (hr.here hb)
    have HE := Lib.hid (show ROwn inS w.heap.size (w.alloc (.cells #[] 3)) 3 (.slice (some ⟨w.heap.size, 0, none⟩) 0 0) [] from ROwn.lit w _)
    have HL := Lib.hid hb
    have hll := hr.hlen
    have HLL := Lib.hid hll
    have HAP := Lib.hid (app_row (T := 31) (ty := 31) (cap := cap) inS Tryd.underlying31 infoInt' inZ (by decide) (by omega) HE.out HT.out (flat_in_one l) (by simp; omega) (by simp))
    clear h hr hb hll
    go_enter Tryd.func45, Tryd.ntmps45
    go_wp2_with (first | (at_builtin; refine Lnk.wpList_append_run rfl _ _ 31 rfl _ _ rfl rfl HAP.out ?_; intro v' w6 happ) | fail)
    have ho : ROwn inS w.heap.size w6 3 v' l := happ.1
    obtain ⟨a', c', rfl⟩ := ho.shape
    have hb6 : Below w.heap.size w w6 := HL.out.grown happ.2.1 HL.out.size (fun k e => by cases e; exact Nat.le_refl _)
    go_ret
    exact ⟨⟨a', c', rfl, iown_row.2 ho⟩, hb6⟩

set_option maxRecDepth 100000 in
set_option maxHeartbeats 8000000 in
theorem copyGate_any (w : World) (de qu wi ti qa bu le pb pc pj pt nw la : Int) (ea : Option Addr) (en ec : Nat) (ka : Option Addr) (kn kc : Nat) (tu : Int) (fa : Option Addr) (fn fc : Nat) (ra : Option Addr) (rn rc : Nat) (tk ac dr : Int) (E : List Ev) (K : List Lk) (F R : List Int) (h : GIs w.heap.size w ea en ka kn fa fn ra rn E K F R) (hs : Small en kn fn rn K) :
    Calls Tryd.prog 20 #[.agg #[.int .i64 de, .int .i64 qu, .int .i64 wi, .int .i64 ti, .int .i64 qa, .int .i64 bu, .int .i64 le, .int .i64 pb, .int .i64 pc, .int .i64 pj, .int .i64 pt, .int .i64 nw, .int .i64 la, .slice ea en ec, .slice ka kn kc, .int .i64 tu, .slice fa fn fc, .slice ra rn rc, .int .i64 tk, .int .i64 ac, .int .i64 dr]] w fun e w' => GEnd w w' de qu wi ti qa bu le pb pc pj pt nw la tu tk ac dr E K F R e := by
  obtain rfl : E.length = en := h.ev.row.hlen
  obtain rfl : K.length = kn := h.lk.hlen
  obtain rfl : F.length = fn := h.lf.hlen
  obtain rfl : R.length = rn := h.lt.hlen
  obtain ⟨W0, hW0⟩ : ∃ W, W = (w.alloc (.cells #[.int .i64 de, .int .i64 qu, .int .i64 wi, .int .i64 ti, .int .i64 qa, .int .i64 bu, .int .i64 le, .int .i64 pb, .int .i64 pc, .int .i64 pj, .int .i64 pt, .int .i64 nw, .int .i64 la, .slice ea E.length ec, .slice ka K.length kc, .int .i64 tu, .slice fa F.length fc, .slice ra R.length rc, .int .i64 tk, .int .i64 ac, .int .i64 dr] 33)).alloc (.cells #[.int .i64 0, .int .i64 0, .int .i64 0, .int .i64 0, .int .i64 0, .int .i64 0, .int .i64 0, .int .i64 0, .int .i64 0, .int .i64 0, .int .i64 0, .int .i64 0, .int .i64 0, .slice none 0 0, .slice none 0 0, .int .i64 0, .slice none 0 0, .slice none 0 0, .int .i64 0, .int .i64 0, .int .i64 0] 33) := ⟨_, rfl⟩
  have hb01 := bOne w (.cells #[.int .i64 de, .int .i64 qu, .int .i64 wi, .int .i64 ti, .int .i64 qa, .int .i64 bu, .int .i64 le, .int .i64 pb, .int .i64 pc, .int .i64 pj, .int .i64 pt, .int .i64 nw, .int .i64 la, .slice ea E.length ec, .slice ka K.length kc, .int .i64 tu, .slice fa F.length fc, .slice ra R.length rc, .int .i64 tk, .int .i64 ac, .int .i64 dr] 33)
  have hb02 := bOne (w.alloc (.cells #[.int .i64 de, .int .i64 qu, .int .i64 wi, .int .i64 ti, .int .i64 qa, .int .i64 bu, .int .i64 le, .int .i64 pb, .int .i64 pc, .int .i64 pj, .int .i64 pt, .int .i64 nw, .int .i64 la, .slice ea E.length ec, .slice ka K.length kc, .int .i64 tu, .slice fa F.length fc, .slice ra R.length rc, .int .i64 tk, .int .i64 ac, .int .i64 dr] 33)) (.cells #[.int .i64 0, .int .i64 0, .int .i64 0, .int .i64 0, .int .i64 0, .int .i64 0, .int .i64 0, .int .i64 0, .int .i64 0, .int .i64 0, .int .i64 0, .int .i64 0, .int .i64 0, .slice none 0 0, .slice none 0 0, .int .i64 0, .slice none 0 0, .slice none 0 0, .int .i64 0, .int .i64 0, .int .i64 0] 33)
  have HA : Hid (Box W0 w.heap.size 33 [.int .i64 de, .int .i64 qu, .int .i64 wi, .int .i64 ti, .int .i64 qa, .int .i64 bu, .int .i64 le, .int .i64 pb, .int .i64 pc, .int .i64 pj, .int .i64 pt, .int .i64 nw, .int .i64 la, .slice ea E.length ec, .slice ka K.length kc, .int .i64 tu, .slice fa F.length fc, .slice ra R.length rc, .int .i64 tk, .int .i64 ac, .int .i64 dr]) := Lib.hid (by rw [hW0]; exact (Box.new w [.int .i64 de, .int .i64 qu, .int .i64 wi, .int .i64 ti, .int .i64 qa, .int .i64 bu, .int .i64 le, .int .i64 pb, .int .i64 pc, .int .i64 pj, .int .i64 pt, .int .i64 nw, .int .i64 la, .slice ea E.length ec, .slice ka K.length kc, .int .i64 tu, .slice fa F.length fc, .slice ra R.length rc, .int .i64 tk, .int .i64 ac, .int .i64 dr] 33).below hb02)
  have HR : Hid (Box W0 (w.heap.size + 1) 33 [.int .i64 0, .int .i64 0, .int .i64 0, .int .i64 0, .int .i64 0, .int .i64 0, .int .i64 0, .int .i64 0, .int .i64 0, .int .i64 0, .int .i64 0, .int .i64 0, .int .i64 0, .slice none 0 0, .slice none 0 0, .int .i64 0, .slice none 0 0, .slice none 0 0, .int .i64 0, .int .i64 0, .int .i64 0]) := Lib.hid (by
    rw [hW0]
    have := Box.new (w.alloc (.cells #[.int .i64 de, .int .i64 qu, .int .i64 wi, .int .i64 ti, .int .i64 qa, .int .i64 bu, .int .i64 le, .int .i64 pb, .int .i64 pc, .int .i64 pj, .int .i64 pt, .int .i64 nw, .int .i64 la, .slice ea E.length ec, .slice ka K.length kc, .int .i64 tu, .slice fa F.length fc, .slice ra R.length rc, .int .i64 tk, .int .i64 ac, .int .i64 dr] 33)) [.int .i64 0, .int .i64 0, .int .i64 0, .int .i64 0, .int .i64 0, .int .i64 0, .int .i64 0, .int .i64 0, .int .i64 0, .int .i64 0, .int .i64 0, .int .i64 0, .int .i64 0, .slice none 0 0, .slice none 0 0, .int .i64 0, .slice none 0 0, .slice none 0 0, .int .i64 0, .int .i64 0, .int .i64 0] 33
    simpa using this)
  have HL : Hid (Below w.heap.size w W0) := Lib.hid (by rw [hW0]; exact hb01.trans (hb02.mono (by simp)))
  have HB1 := Lib.hid (show w.heap.size + 2 ≤ W0.heap.size by rw [hW0]; simp)
  have HWE := Lib.hid hW0
  have HG := Lib.hid h
  have HSM := Lib.hid hs
  obtain ⟨raw, hr1, hr2, hr3⟩ := h.lk.ex
  have HR1 := Lib.hid hr1
  have HR2 := Lib.hid hr2
  have HR3 := Lib.hid hr3
  have HONE := Lib.hid (show ∀ r ∈ raw, r.v.oneCell' = true from fun r hr => by
    obtain ⟨k, hk, rfl⟩ := List.getElem_of_mem hr
    obtain ⟨_, _, _, a, n, c, e, _⟩ := hr3 k hk (by rw [← hr2]; exact hk)
    rw [e]; rfl)
  clear hW0 hb01 hb02 h hs hr1 hr2 hr3
  have c13 := HA.out.cell 13 _ rfl
  go_enter Tryd.func20, Tryd.ntmps20
  go_wp2_with fail
  rw [← HWE.out]
  clear HWE c13
  refine (cloneEv_any _ ea E.length ec E (HG.out.ev.here HL.out) HSM.out.1).mono ?_
  rintro e w1 ⟨⟨ea1, ec1, rfl, ho⟩, hb⟩
  have HW := Lib.hid (show Rws (w.heap.size + 2) w1 [evR (.slice ea1 E.length ec1) E] from (show Rws W0.heap.size w1 [evR (.slice ea1 E.length ec1) E] from ⟨fun r hr => by rw [List.mem_singleton.1 hr]; exact ho, List.pairwise_singleton _ _⟩).base HB1.out)
  replace HA := Lib.hid (HA.out.below hb)
  replace HR := Lib.hid (HR.out.below hb)
  replace HL := Lib.hid (low_after HL.out hb)
  replace HB1 := Lib.hid (Nat.le_trans HB1.out hb.size)
  clear hb ho
  have d13 := HA.out.cell 13 _ rfl
  have f13 := HA.out.frozen 13
  go_upto_region 2 with fail
  clear d13 f13
  obtain ⟨V1, hV⟩ : ∃ V, V = w1.setCell ⟨w.heap.size, 13, none⟩ (.slice ea1 E.length ec1) := ⟨_, rfl⟩
  rw [← hV]
  have hg : w1.grownBy V1 (some w.heap.size) := by rw [hV]; exact store_grown [.slice ea1 E.length ec1] 13 _
  replace HA := Lib.hid (show Box V1 w.heap.size 33 [.int .i64 de, .int .i64 qu, .int .i64 wi, .int .i64 ti, .int .i64 qa, .int .i64 bu, .int .i64 le, .int .i64 pb, .int .i64 pc, .int .i64 pj, .int .i64 pt, .int .i64 nw, .int .i64 la, .slice ea1 E.length ec1, .slice ka K.length kc, .int .i64 tu, .slice fa F.length fc, .slice ra R.length rc, .int .i64 tk, .int .i64 ac, .int .i64 dr] by rw [hV]; exact Box.store [.slice ea1 E.length ec1] 13 _ _ HA.out)
  replace HR := Lib.hid (HR.out.grown hg (by simp))
  replace HL := Lib.hid (show Below w.heap.size w V1 by rw [hV]; exact store_below (by omega) [.slice ea1 E.length ec1] 13 _ _ HL.out)
  replace HB1 := Lib.hid (Nat.le_trans HB1.out hg.size)
  replace HW := Lib.hid (HW.out.low hg (by omega))
  clear hV hg
  have c14 := HA.out.cell 14 _ rfl
  go_wp2_with fail
  clear c14
  refine (cloneLr_any _ ka K.length kc raw ((HR1.out.below HL.out).mono HL.out.size) HONE.out HSM.out.2.1).mono ?_
  rintro e w2 ⟨⟨ka1, kc1, rfl, ho⟩, hb⟩
  rw [HR2.out] at ho ⊢
  have hrw := HW.out.new (r := lrR (.slice ka1 K.length kc1) raw) hb (by have h1 := ho; unfold Rw.At lrR; rw [HR2.out]; unfold ROwn at h1; rw [HR2.out] at h1; exact h1) HB1.out
  replace HA := Lib.hid (HA.out.below hb)
  replace HR := Lib.hid (HR.out.below hb)
  replace HL := Lib.hid (low_after HL.out hb)
  replace HB1 := Lib.hid (Nat.le_trans HB1.out hb.size)
  replace HW := Lib.hid hrw
  clear hb ho hrw HONE HR1
  have d14 := HA.out.cell 14 _ rfl
  have f14 := HA.out.frozen 14
  go_upto_region 3 with fail
  clear d14 f14
  obtain ⟨V2, hV⟩ : ∃ V, V = w2.setCell ⟨w.heap.size, 14, none⟩ (.slice ka1 K.length kc1) := ⟨_, rfl⟩
  rw [← hV]
  have hg : w2.grownBy V2 (some w.heap.size) := by rw [hV]; exact store_grown [.slice ka1 K.length kc1] 14 _
  replace HA := Lib.hid (show Box V2 w.heap.size 33 [.int .i64 de, .int .i64 qu, .int .i64 wi, .int .i64 ti, .int .i64 qa, .int .i64 bu, .int .i64 le, .int .i64 pb, .int .i64 pc, .int .i64 pj, .int .i64 pt, .int .i64 nw, .int .i64 la, .slice ea1 E.length ec1, .slice ka1 K.length kc1, .int .i64 tu, .slice fa F.length fc, .slice ra R.length rc, .int .i64 tk, .int .i64 ac, .int .i64 dr] by rw [hV]; exact Box.store [.slice ka1 K.length kc1] 14 _ _ HA.out)
  replace HR := Lib.hid (HR.out.grown hg (by simp))
  replace HL := Lib.hid (show Below w.heap.size w V2 by rw [hV]; exact store_below (by omega) [.slice ka1 K.length kc1] 14 _ _ HL.out)
  replace HB1 := Lib.hid (Nat.le_trans HB1.out hg.size)
  replace HW := Lib.hid (HW.out.low hg (by omega))
  clear hV hg
  have c14 := HA.out.cell 14 _ rfl
  have hKb : K.length ≤ 1048576 := HSM.out.2.1
  go_wp2_with fail
  clear c14

  go_loopw [16] (fun i wr => ∃ (j : Nat) (vs : List Value), j ≤ K.length ∧ i = .int .i64 j ∧ Hid (vs.length = j) ∧ Hid (Below w.heap.size w wr) ∧ Hid (Box wr w.heap.size 33 [.int .i64 de, .int .i64 qu, .int .i64 wi, .int .i64 ti, .int .i64 qa, .int .i64 bu, .int .i64 le, .int .i64 pb, .int .i64 pc, .int .i64 pj, .int .i64 pt, .int .i64 nw, .int .i64 la, .slice ea1 E.length ec1, .slice ka1 K.length kc1, .int .i64 tu, .slice fa F.length fc, .slice ra R.length rc, .int .i64 tk, .int .i64 ac, .int .i64 dr]) ∧ Hid (Box wr (w.heap.size + 1) 33 [.int .i64 0, .int .i64 0, .int .i64 0, .int .i64 0, .int .i64 0, .int .i64 0, .int .i64 0, .int .i64 0, .int .i64 0, .int .i64 0, .int .i64 0, .int .i64 0, .int .i64 0, .slice none 0 0, .slice none 0 0, .int .i64 0, .slice none 0 0, .slice none 0 0, .int .i64 0, .int .i64 0, .int .i64 0]) ∧ Hid (w.heap.size + 2 ≤ wr.heap.size) ∧ Hid (Rws (w.heap.size + 2) wr (lrR (.slice ka1 K.length kc1) (rawC K vs raw j) :: evR (.slice ea1 E.length ec1) E :: flRs (K.take j) vs))) (fun i _ => K.length - (intOf i).toNat)
  case atStart => exact ⟨0, [], by omega, rfl, Lib.hid rfl, HL, HA, HR, HB1, Lib.hid (by rw [rawC_zero]; exact HW.out)⟩
  case round =>
    obtain ⟨j, vs, hj, rfl, HVL, HL, HA, HR, HB1, HW⟩ := hrel
    by_cases hlt : (j : Int) < (K.length : Int)
    · have hjl : j < K.length := by omega
      have hjr : j < raw.length := by rw [HR2.out]; exact hjl
      obtain ⟨e1, e2, e3, fa0, fl, fc0, e4, hy⟩ := HR3.out j hjr hjl
      obtain ⟨up, ep, sq, y, hkj⟩ : ∃ up ep sq y, K[j] = ⟨up, ep, sq, y⟩ := ⟨_, _, _, _, rfl⟩
      rw [hkj] at e1 e2 e3 hy
      dsimp only at e1 e2 e3 hy
      have HY := Lib.hid hy
      have HKJ := Lib.hid hkj
      have HYF := Lib.hid (show y.length ≤ 1048576 by have h1 := HSM.out.2.2.1 K[j] (List.getElem_mem _); rw [hkj] at h1; exact h1)
      have hro : ROwn lrS (w.heap.size + 2) wr 44 (.slice ka1 K.length kc1) (rawC K vs raw j) := by
        exact lrR_at.1 HW.out.head
      have hjc : j < (rawC K vs raw j).length := by rw [rawC_len HVL.out HR2.out (by omega)]; exact hjl
      have hat := rawC_at HVL.out HR2.out hjl hjc
      have hgx : ∃ g, ka1 = some ⟨g, 0, none⟩ ∧ w.heap.size + 2 ≤ g ∧ g < wr.heap.size := by
        rcases hro.2 with ⟨e, h1⟩ | ⟨g, c, cur, e, hbg, hgg, _⟩
        · rw [rawC_len HVL.out HR2.out (by omega)] at h1; omega
        · simp only [Value.slice.injEq] at e
          exact ⟨g, e.1, hbg, lt_of_block hgg⟩
      obtain ⟨g, rfl, hg1, hg2⟩ := hgx
      obtain ⟨⟨up0, ep0, sq0, v0, hrow, c0, c1, c2, c3⟩, f0, f1, f2, f3⟩ := lown_at hro j hjc
      rw [hat] at hrow
      obtain rfl : up = up0 := by rw [← e1, hrow]
      obtain rfl : ep = ep0 := by rw [← e2, hrow]
      obtain rfl : sq = sq0 := by rw [← e3, hrow]
      obtain rfl : v0 = .slice fa0 fl fc0 := by rw [← e4, hrow]
      have HJC := Lib.hid hjc
      clear e1 e2 e3 e4 hy hkj hat hrow hjc hro f0 f1 f2 f3
      go_upto_region 6 with fail
      clear c0 c1 c2 c3
      have hb := bOne wr (.cells #[.bool up, .int .i64 ep, .int .i64 sq, .slice fa0 fl fc0] 44)
      have HC := Lib.hid (Box.new wr [.bool up, .int .i64 ep, .int .i64 sq, .slice fa0 fl fc0] 44)

      replace HA := Lib.hid (HA.out.below hb)
      replace HR := Lib.hid (HR.out.below hb)
      replace HL := Lib.hid (low_after HL.out hb)
      replace HB1 := Lib.hid (Nat.le_trans HB1.out hb.size)
      replace HW := Lib.hid (HW.out.below hb)
      clear hb
      obtain ⟨wk, hwk⟩ : ∃ V, V = wr.alloc (.cells #[.bool up, .int .i64 ep, .int .i64 sq, .slice fa0 fl fc0] 44) := ⟨_, rfl⟩
      obtain ⟨kt, hkt⟩ : ∃ k, k = wr.heap.size := ⟨_, rfl⟩
      have HTG := Lib.hid (show g < kt by rw [hkt]; exact hg2)
      rw [← hwk] at HA HR HL HB1 HW HC ⊢
      rw [← hkt] at HC ⊢
      clear hwk hkt hg2
      have hb := below_drew' (Below.refl wk.heap.size wk)
      replace HA := Lib.hid (HA.out.below hb)
      replace HR := Lib.hid (HR.out.below hb)
      replace HL := Lib.hid (low_after HL.out hb)
      replace HB1 := Lib.hid (Nat.le_trans HB1.out hb.size)
      replace HW := Lib.hid (HW.out.below hb)
      replace HC := Lib.hid (HC.out.below hb)
      clear hb
      refine wp_region_held_drew (S := fun w' => w'.cell? ⟨w.heap.size, 14, none⟩ = some (.slice (some ⟨g, 0, none⟩) K.length kc1) ∧ w'.cell? ⟨kt, 0, none⟩ = some (.bool up) ∧ w'.cell? ⟨kt, 1, none⟩ = some (.int .i64 ep) ∧ w'.cell? ⟨kt, 2, none⟩ = some (.int .i64 sq) ∧ w'.cell? ⟨kt, 3, none⟩ = some (.slice fa0 fl fc0)) (by kernel_rfl) ⟨HA.out.cell 14 _ rfl, HC.out.cell 0 _ rfl, HC.out.cell 1 _ rfl, HC.out.cell 2 _ rfl, HC.out.cell 3 _ rfl⟩ (fun hHeld => ?_)
      obtain ⟨wd, hwd⟩ : ∃ x, x = wk.drew := ⟨_, rfl⟩
      rw [← hwd] at HL HA HR HW HB1 HC hHeld ⊢
      clear hwd
      refine wpAnyH_take (i := 0) (oi := { dst := some _, op := _, type := _, pos := _, after := _, guard := _ }) (v := ?_) rfl (by kernel_rfl) (by kernel_rfl) (by kernel_rfl) (fun _ _ _ h => h) ?_ (by with_reducible assumption) ?_
      rotate_left 1
      focus (refine Or.inl ⟨by rfl, ?_⟩; intro wq hSw; go_simp; try with_reducible rfl)
      try simp only [Act.put, List.setIfInBounds_toArray, List.set_cons_zero, List.set_cons_succ]
      refine wpAnyH_take (i := 1) (oi := { dst := some _, op := _, type := _, pos := _, after := _, guard := _ }) (v := ?_) rfl (by kernel_rfl) (by kernel_rfl) (by kernel_rfl) (fun _ _ _ h => h) ?_ (by with_reducible assumption) ?_
      rotate_left 1
      focus (refine Or.inl ⟨by rfl, ?_⟩; intro wq hSw; have q0 := hSw.1; go_simp; try with_reducible rfl)
      try simp only [Act.put, List.setIfInBounds_toArray, List.set_cons_zero, List.set_cons_succ]
      refine wpAnyH_take (i := 2) (oi := { dst := some _, op := _, type := _, pos := _, after := _, guard := _ }) (v := ?_) rfl (by kernel_rfl) (by kernel_rfl) (by kernel_rfl) (fun _ _ _ h => h) ?_ (by with_reducible assumption) ?_
      rotate_left 1
      focus (refine Or.inl ⟨by rfl, ?_⟩; intro wq hSw; go_simp; try with_reducible rfl)
      try simp only [Act.put, List.setIfInBounds_toArray, List.set_cons_zero, List.set_cons_succ]
      refine wpAnyH_take (i := 3) (oi := { dst := some _, op := _, type := _, pos := _, after := _, guard := _ }) (v := ?_) rfl (by kernel_rfl) (by kernel_rfl) (by kernel_rfl) (fun _ _ _ h => h) ?_ (by with_reducible assumption) ?_
      rotate_left 1
      focus (refine Or.inl ⟨by rfl, ?_⟩; intro wq hSw; have q1 := hSw.2.1; have q2 := hSw.2.2.1; have q3 := hSw.2.2.2.1; have q4 := hSw.2.2.2.2; go_simp; try with_reducible rfl)
      try simp only [Act.put, List.setIfInBounds_toArray, List.set_cons_zero, List.set_cons_succ]
      refine wpAnyH_ready (rs := [4]) (by kernel_rfl) (by simp) ?_
      refine AllReadyH.cons rfl (fun KC hKC => ?_) AllReadyH.nil
      go_simp
      refine (Lnk.copyLink_any _ fa0 fl fc0 up ep sq y ((HY.out.below HL.out).mono HL.out.size) (by have := HY.out.hlen; have := HYF.out; omega)).mono ?_
      rintro e w3 ⟨⟨a2, cap2, rfl, ho2⟩, hb⟩
      obtain ⟨n2, hn2⟩ : ∃ n, n = y.length := ⟨_, rfl⟩
      rw [← hn2] at ho2 ⊢
      clear hn2
      have hrw := HW.out.new (r := flR (.slice a2 n2 cap2) y) hb ho2 HB1.out
      replace HA := Lib.hid (HA.out.below hb)
      replace HR := Lib.hid (HR.out.below hb)
      replace HL := Lib.hid (low_after HL.out hb)
      replace HB1 := Lib.hid (Nat.le_trans HB1.out hb.size)
      replace HC := Lib.hid (HC.out.below hb)
      replace HW := Lib.hid (hrw.perm (perm2 _ _ _))
      clear hb ho2 hHeld hrw
      dsimp only
      refine hKC.out _ _ (⟨HA.out.cell 14 _ rfl, HC.out.cell 0 _ rfl, HC.out.cell 1 _ rfl, HC.out.cell 2 _ rfl, HC.out.cell 3 _ rfl⟩) (fun hHeld => ?_)
      clear hKC
      try simp only [Act.put, List.setIfInBounds_toArray, List.set_cons_zero, List.set_cons_succ]
      have hro : ROwn lrS (w.heap.size + 2) w3 44 (.slice (some ⟨g, 0, none⟩) K.length kc1) (rawC K vs raw j) := lrR_at.1 HW.out.head
      obtain ⟨⟨up0, ep0, sq0, v0, hrow, d0, d1, d2, d3⟩, f0, f1, f2, f3⟩ := lown_at hro j HJC.out
      have hst := lown_set hro j HJC.out up ep sq (.slice a2 n2 cap2)
      refine wpAnyH_take (i := 5) (oi := { dst := some _, op := _, type := _, pos := _, after := _, guard := _ }) (v := ?_) rfl (by kernel_rfl) (by kernel_rfl) (by kernel_rfl) (fun _ _ _ h => h) ?_ (by with_reducible assumption) ?_
      rotate_left 1
      focus (refine Or.inl ⟨by rfl, ?_⟩; intro wq hSw; go_simp; try with_reducible rfl)
      try simp only [Act.put, List.setIfInBounds_toArray, List.set_cons_zero, List.set_cons_succ]
      refine wpAnyH_ready (rs := [6]) (by kernel_rfl) (by simp) ?_
      refine AllReadyH.cons rfl (fun KS hKS => ?_) AllReadyH.nil
      go_simp
      obtain ⟨w4, hw4⟩ : ∃ V, V = (((w3.setCell ⟨g, j * 4, none⟩ (.bool up)).setCell ⟨g, j * 4 + 1, none⟩ (.int .i64 ep)).setCell ⟨g, j * 4 + 2, none⟩ (.int .i64 sq)).setCell ⟨g, j * 4 + 3, none⟩ (.slice a2 n2 cap2) := ⟨_, rfl⟩
      rw [← hw4] at hst ⊢
      have hre : (rawC K vs raw j).set j ⟨up, ep, sq, .slice a2 n2 cap2⟩ = rawC K (vs ++ [.slice a2 n2 cap2]) raw (j + 1) := by
        rw [← rawC_step HVL.out HR2.out hjl, HKJ.out]
      rw [hre] at hst
      have hr3 := HW.out.mod (s := lrR (.slice (some ⟨g, 0, none⟩) K.length kc1) (rawC K (vs ++ [.slice a2 n2 cap2]) raw (j + 1))) 0 (by simp) hst.2 (lrR_at.2 hst.1) rfl
      have hr4 : Rws (w.heap.size + 2) w4 (lrR (.slice (some ⟨g, 0, none⟩) K.length kc1) (rawC K (vs ++ [.slice a2 n2 cap2]) raw (j + 1)) :: evR (.slice ea1 E.length ec1) E :: flRs (K.take (j + 1)) (vs ++ [.slice a2 n2 cap2])) := by
        rw [flRs_one HVL.out hjl, HKJ.out]
        exact hr3.perm (perm_tail _ _ _ _)
      have hne : some w.heap.size ≠ some g := fun e => by injection e; omega
      have hne2 : some (w.heap.size + 1) ≠ some g := fun e => by injection e; omega
      have hne3 : some kt ≠ some g := fun e => by injection e; have := HTG.out; omega
      replace HA := Lib.hid (HA.out.grown hst.2 hne)
      replace HR := Lib.hid (HR.out.grown hst.2 hne2)
      replace HC := Lib.hid (HC.out.grown hst.2 hne3)
      replace HL := Lib.hid (HL.out.grown hst.2 HL.out.size (fun q e => by cases e; omega))
      replace HB1 := Lib.hid (Nat.le_trans HB1.out hst.2.size)
      replace HW := Lib.hid hr4
      clear hst hro hrow d0 d1 d2 d3 f0 f1 f2 f3 hre hr3 hr4 hne hne2 hne3 hHeld hw4
      refine hKS.out _ _ (⟨HA.out.cell 14 _ rfl, HC.out.cell 0 _ rfl, HC.out.cell 1 _ rfl, HC.out.cell 2 _ rfl, HC.out.cell 3 _ rfl⟩) (fun hHeld => ?_)
      clear hKS
      try simp only [Act.put, List.setIfInBounds_toArray, List.set_cons_zero, List.set_cons_succ]
      refine wpAnyH_done (by kernel_rfl) ?_ _
      clear hHeld
      go_wp2_with fail
      go_roundw
      case rel => exact ⟨j + 1, vs ++ [.slice a2 n2 cap2], by omega, by go_num, Lib.hid (by rw [List.length_append, HVL.out]; rfl), HL, HA, HR, HB1, HW⟩
      case measure => simp [intOf]; omega

    · obtain rfl : j = K.length := by omega
      replace HW := Lib.hid (show Rws (w.heap.size + 2) wr (lrR (.slice ka1 K.length kc1) (rawOf K vs) :: evR (.slice ea1 E.length ec1) E :: flRs K vs) by
        have h1 := HW.out
        rw [rawC_all HR2.out, List.take_length] at h1
        exact h1)
      clear hj hlt HR2 HR3
      have c16 := HA.out.cell 16 _ rfl
      go_wp2_with fail
      clear c16

      refine (cloneIn_any _ fa F.length fc F (HG.out.lf.here HL.out) HG.out.fle HSM.out.2.2.2.1).mono ?_
      rintro e w5 ⟨⟨fa1, fc1, rfl, ho⟩, hb⟩
      have hrw := HW.out.new (r := inR (.slice fa1 F.length fc1) F) hb ho HB1.out
      replace HA := Lib.hid (HA.out.below hb)
      replace HR := Lib.hid (HR.out.below hb)
      replace HL := Lib.hid (low_after HL.out hb)
      replace HB1 := Lib.hid (Nat.le_trans HB1.out hb.size)
      replace HW := Lib.hid hrw
      clear hb ho hrw
      have d16 := HA.out.cell 16 _ rfl
      have f16 := HA.out.frozen 16
      go_upto_region 9 with fail
      clear d16 f16
      obtain ⟨V5, hV⟩ : ∃ V, V = w5.setCell ⟨w.heap.size, 16, none⟩ (.slice fa1 F.length fc1) := ⟨_, rfl⟩
      rw [← hV]
      have hg : w5.grownBy V5 (some w.heap.size) := by rw [hV]; exact store_grown [.slice fa1 F.length fc1] 16 _
      replace HA := Lib.hid (show Box V5 w.heap.size 33 [.int .i64 de, .int .i64 qu, .int .i64 wi, .int .i64 ti, .int .i64 qa, .int .i64 bu, .int .i64 le, .int .i64 pb, .int .i64 pc, .int .i64 pj, .int .i64 pt, .int .i64 nw, .int .i64 la, .slice ea1 E.length ec1, .slice ka1 K.length kc1, .int .i64 tu, .slice fa1 F.length fc1, .slice ra R.length rc, .int .i64 tk, .int .i64 ac, .int .i64 dr] by rw [hV]; exact Box.store [.slice fa1 F.length fc1] 16 _ _ HA.out)
      replace HR := Lib.hid (HR.out.grown hg (by simp))
      replace HL := Lib.hid (show Below w.heap.size w V5 by rw [hV]; exact store_below (by omega) [.slice fa1 F.length fc1] 16 _ _ HL.out)
      replace HB1 := Lib.hid (Nat.le_trans HB1.out hg.size)
      replace HW := Lib.hid (HW.out.low hg (by omega))
      clear hV hg
      have c17 := HA.out.cell 17 _ rfl
      go_wp2_with fail
      clear c17
      refine (cloneIn_any _ ra R.length rc R (HG.out.lt.here HL.out) HG.out.rle HSM.out.2.2.2.2).mono ?_
      rintro e w6 ⟨⟨ra1, rc1, rfl, ho⟩, hb⟩
      have hrw := HW.out.new (r := inR (.slice ra1 R.length rc1) R) hb ho HB1.out
      replace HA := Lib.hid (HA.out.below hb)
      replace HR := Lib.hid (HR.out.below hb)
      replace HL := Lib.hid (low_after HL.out hb)
      replace HB1 := Lib.hid (Nat.le_trans HB1.out hb.size)
      replace HW := Lib.hid hrw
      clear hb ho hrw
      have d17 := HA.out.cell 17 _ rfl
      have f17 := HA.out.frozen 17
      go_upto_region 10 with fail
      clear d17 f17
      obtain ⟨V6, hV⟩ : ∃ V, V = w6.setCell ⟨w.heap.size, 17, none⟩ (.slice ra1 R.length rc1) := ⟨_, rfl⟩
      rw [← hV]
      have hg : w6.grownBy V6 (some w.heap.size) := by rw [hV]; exact store_grown [.slice ra1 R.length rc1] 17 _
      replace HA := Lib.hid (show Box V6 w.heap.size 33 [.int .i64 de, .int .i64 qu, .int .i64 wi, .int .i64 ti, .int .i64 qa, .int .i64 bu, .int .i64 le, .int .i64 pb, .int .i64 pc, .int .i64 pj, .int .i64 pt, .int .i64 nw, .int .i64 la, .slice ea1 E.length ec1, .slice ka1 K.length kc1, .int .i64 tu, .slice fa1 F.length fc1, .slice ra1 R.length rc1, .int .i64 tk, .int .i64 ac, .int .i64 dr] by rw [hV]; exact Box.store [.slice ra1 R.length rc1] 17 _ _ HA.out)
      replace HR := Lib.hid (HR.out.grown hg (by simp))
      replace HL := Lib.hid (show Below w.heap.size w V6 by rw [hV]; exact store_below (by omega) [.slice ra1 R.length rc1] 17 _ _ HL.out)
      replace HB1 := Lib.hid (Nat.le_trans HB1.out hg.size)
      replace HW := Lib.hid (HW.out.low hg (by omega))
      clear hV hg
      go_wp2_with (first | (refine wpList_load_box rfl _ 33 rfl rfl HA.out _ Tryd.underlying33 sizeGate ?_) | (refine wpList_store_box rfl _ _ 33 rfl rfl [.int .i64 de, .int .i64 qu, .int .i64 wi, .int .i64 ti, .int .i64 qa, .int .i64 bu, .int .i64 le, .int .i64 pb, .int .i64 pc, .int .i64 pj, .int .i64 pt, .int .i64 nw, .int .i64 la, .slice ea1 E.length ec1, .slice ka1 K.length kc1, .int .i64 tu, .slice fa1 F.length fc1, .slice ra1 R.length rc1, .int .i64 tk, .int .i64 ac, .int .i64 dr] rfl HR.out sizeGate rfl rfl ?_; intro V hXb hgV hlV) | fail)
      exact bodyPost_ret (v := .agg #[.int .i64 de, .int .i64 qu, .int .i64 wi, .int .i64 ti, .int .i64 qa, .int .i64 bu, .int .i64 le, .int .i64 pb, .int .i64 pc, .int .i64 pj, .int .i64 pt, .int .i64 nw, .int .i64 la, .slice ea1 E.length ec1, .slice ka1 K.length kc1, .int .i64 tu, .slice fa1 F.length fc1, .slice ra1 R.length rc1, .int .i64 tk, .int .i64 ac, .int .i64 dr]) (results_box _ Tryd.results20 rfl hXb _ Tryd.underlying33 sizeGate) rfl ⟨⟨ea1, ec1, ka1, kc1, fa1, fc1, ra1, rc1, vs, rfl, ⟨((HW.out.perm (perm_last _ _ _ _ _)).low hgV (by omega)).base (by omega), HVL.out, HG.out.ev.body⟩⟩, hlV w.heap.size w (by omega) HL.out⟩

end Go.Proofs.YtkndpkingmemoaaDoor.Gat
