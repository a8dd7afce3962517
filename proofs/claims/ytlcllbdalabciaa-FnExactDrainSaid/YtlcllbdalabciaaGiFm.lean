/-
  keeper.remove with its slices.DeleteFunc.
-/
import Derived.Test.YtlcllbdalabciaaMgn
import Derived.Test.YtlcllbdalabciaaMgo
namespace Go.Proofs.Ytlcllbdalabciaa.Gat
open Go.RowKit
open Lnk (bOne bAfter IOwn IIs YOwn YIs below_keep below_drew' bcell low_after low_alloc grown_of_below)
set_option linter.unusedVariables false
set_option linter.unusedSimpArgs false

/-- messages without those of some ids -/
def keepL (ids : List Int) (E : List Ev) : List Ev := E.filter fun e => !hasI ids e.i
theorem keepL_snoc_no {ids : List Int} {E : List Ev} {j : Nat} (h : j < E.length) (hn : hasI ids E[j].i = true) : keepL ids (E.take (j + 1)) = keepL ids (E.take j) := by
  unfold keepL
  rw [List.take_succ_eq_append_getElem h, List.filter_append]
  simp [hn]
theorem keepL_snoc_yes {ids : List Int} {E : List Ev} {j : Nat} (h : j < E.length) (hn : hasI ids E[j].i = false) : keepL ids (E.take (j + 1)) = keepL ids (E.take j) ++ [E[j]] := by
  unfold keepL
  rw [List.take_succ_eq_append_getElem h, List.filter_append]
  simp [hn]
theorem keepL_all {ids : List Int} {E : List Ev} (h : ∀ e ∈ E, hasI ids e.i = false) : keepL ids E = E := by
  unfold keepL
  exact List.filter_eq_self.2 fun e he => by rw [h e he]; rfl
theorem keepL_len (ids : List Int) (E : List Ev) : (keepL ids E).length ≤ E.length := List.length_filter_le _ _
theorem keepL_body {ids : List Int} {E : List Ev} (h : ∀ e ∈ E, e.b.size ≤ maxLen) : ∀ e ∈ keepL ids E, e.b.size ≤ maxLen := fun e he => h e (List.mem_filter.1 he).1
theorem goneAll_eq : ∀ (ids : List Int) (E : List Ev), goneAll E ids = keepL ids E
  | [], E => by
    show E = _
    rw [keepL_all (fun e _ => hasI_no (by simp))]
  | x :: ids, E => by
    show goneAll (goneE x E) ids = _
    rw [goneAll_eq ids]
    unfold keepL goneE
    rw [List.filter_filter]
    refine List.filter_congr fun e _ => ?_
    have : hasI (x :: ids) e.i = (e.i == x || hasI ids e.i) := by unfold hasI; by_cases h1 : e.i = x <;> simp [h1]
    rw [this]
    cases (e.i == x) <;> cases (hasI ids e.i) <;> rfl
/-- the box of the closure's ids, and the ids -/
structure IdB (w : World) (kp Bi : Nat) (ia : Option Addr) (n ic : Nat) (ids : List Int) : Prop where
  box : Box w kp 28 [.slice ia n ic]
  row : (inR (.slice ia n ic) ids).At Bi w
theorem IdB.below {w w' : World} {kp Bi : Nat} {ia : Option Addr} {n ic : Nat} {ids : List Int} (h : IdB w kp Bi ia n ic ids) (hb : Below w.heap.size w w') : IdB w' kp Bi ia n ic ids := ⟨h.box.below hb, inR_below h.row hb⟩
theorem IdB.ev {w w' : World} {kp Bi B : Nat} {ia : Option Addr} {n ic : Nat} {ids : List Int} {v : Value} {l : List Ev} (h : IdB w kp Bi ia n ic ids) (hr : (evR v l).At B w) (hg : w.grownBy w' v.ownBlock) : IdB w' kp Bi ia n ic ids := ⟨h.box.grown hg (hr.ne_box rfl h.box rfl), inR_kept h.row hr ne_ei hg⟩

set_option maxRecDepth 100000 in
set_option maxHeartbeats 2000000 in
theorem delFn_any (w : World) (kp Bi : Nat) (ia : Option Addr) (m ic : Nat) (ids : List Int) (i d c : Int) (bd : ByteArray) (at_ t r n s : Int) (h : IdB w kp Bi ia m ic ids) (hm : m ≤ 1048576) :
    Calls Try.prog 99 #[.agg #[.int .i64 i, .int .i64 d, .int .i64 c, .string bd, .int .i64 at_, .int .i64 t, .int .i64 r, .int .i64 n, .int .i64 s], .pointer (some ⟨kp, 0, none⟩)] w fun e w' => e = .returned (.bool (hasI ids i)) ∧ Below w.heap.size w w' := by
  have hb := bOne w (.cells #[.int .i64 i, .int .i64 d, .int .i64 c, .string bd, .int .i64 at_, .int .i64 t, .int .i64 r, .int .i64 n, .int .i64 s] 81)
  have H := Lib.hid (h.below hb)
  have HL := Lib.hid hb
  have HC := Lib.hid (Box.new w [.int .i64 i, .int .i64 d, .int .i64 c, .string bd, .int .i64 at_, .int .i64 t, .int .i64 r, .int .i64 n, .int .i64 s] 81)
  clear h hb
  have c0 := H.out.box.cell 0 _ rfl
  go_enter Try.func99, Try.ntmps99
  go_wp2_with fail
  refine (contains_any _ _ ia m ic ids i (Lnk.IOwn.isN (inR_at.1 (H.out.row))) hm).mono ?_
  rintro e w1 ⟨rfl, rfl⟩
  go_wp2_with fail
  go_ret
  exact ⟨rfl, HL.out⟩

def IfEnd (ids : List Int) (E : List Ev) (e : Ending) : Prop := ∃ n : Int, e = .returned (.int .i64 n) ∧ ((n = -1 ∧ ∀ x ∈ E, hasI ids x.i = false) ∨ ∃ (k : Nat) (hk : k < E.length), n = (k : Int) ∧ hasI ids E[k].i = true ∧ ∀ x ∈ E.take k, hasI ids x.i = false)
set_option maxRecDepth 100000 in
set_option maxHeartbeats 4000000 in
theorem indexFn_any (w : World) (B kp Bi : Nat) (ia : Option Addr) (m ic : Nat) (ids : List Int) (ea : Option Addr) (ec : Nat) (E : List Ev) (h : IdB w kp Bi ia m ic ids) (hm : m ≤ 1048576) (he : RIs evS w.heap.size w ea E.length E) (hen : E.length ≤ 1048576) :
    Calls Try.prog 123 #[.slice ea E.length ec, .func (.func 99) #[] #[.pointer (some ⟨kp, 0, none⟩)]] w fun e w' => IfEnd ids E e ∧ Below w.heap.size w w' := by
  have heg : ∀ (args : Array Value) (w1 : World), (callFunc 99 args).run Try.prog w1 = .ok (.enter 99 args) w1 := enters_of Try.func99 (by kernel_rfl) rfl
  have H := Lib.hid h
  have HE := Lib.hid he
  clear h he
  go_enter Try.func123, Try.ntmps123
  go_wp2_with fail
  go_loopw [8] (fun i wr => ∃ j : Nat, j ≤ E.length ∧ i = .int .i64 j ∧ Hid (∀ x ∈ E.take j, hasI ids x.i = false) ∧ Hid (Below w.heap.size w wr)) (fun i _ => E.length - (intOf i).toNat)
  case atStart => exact ⟨0, by omega, rfl, Lib.hid (by simp), Lib.hid (Below.refl _ _)⟩
  case round =>
    obtain ⟨j, hj, rfl, HX, HL⟩ := hrel
    by_cases hlt : (j : Int) < (E.length : Int)
    · have hjl : j < E.length := by omega
      obtain ⟨b, off, rfl, hb, hc⟩ := (HE.out.below HL.out).cell j hjl
      obtain ⟨i, d, c, bd, at_, t, r, n, s, hej⟩ : ∃ i d c bd at_ t r n s, E[j] = ⟨i, d, c, bd, at_, t, r, n, s⟩ := ⟨_, _, _, _, _, _, _, _, _, rfl⟩
      rw [hej] at hc
      have c0 : wr.cell? ⟨b, off + j * 9, none⟩ = some (.int .i64 i) := hc 0 _ rfl
      have c1 : wr.cell? ⟨b, off + j * 9 + 1, none⟩ = some (.int .i64 d) := hc 1 _ rfl
      have c2 : wr.cell? ⟨b, off + j * 9 + 2, none⟩ = some (.int .i64 c) := hc 2 _ rfl
      have c3 : wr.cell? ⟨b, off + j * 9 + 3, none⟩ = some (.string bd) := hc 3 _ rfl
      have c4 : wr.cell? ⟨b, off + j * 9 + 4, none⟩ = some (.int .i64 at_) := hc 4 _ rfl
      have c5 : wr.cell? ⟨b, off + j * 9 + 5, none⟩ = some (.int .i64 t) := hc 5 _ rfl
      have c6 : wr.cell? ⟨b, off + j * 9 + 6, none⟩ = some (.int .i64 r) := hc 6 _ rfl
      have c7 : wr.cell? ⟨b, off + j * 9 + 7, none⟩ = some (.int .i64 n) := hc 7 _ rfl
      have c8 : wr.cell? ⟨b, off + j * 9 + 8, none⟩ = some (.int .i64 s) := hc 8 _ rfl
      have HEJ := Lib.hid hej
      clear hc hej
      go_wp2_with fail
      refine (delFn_any _ kp Bi ia m ic ids i d c bd at_ t r n s (H.out.below HL.out) hm).mono ?_
      rintro e w1 ⟨rfl, hb1⟩
      have HL1 := Lib.hid (low_after HL.out hb1)
      clear hb1 c0 c1 c2 c3 c4 c5 c6 c7 c8
      cases hh : hasI ids i with
      | true =>
        have HM := Lib.hid (show hasI ids E[j].i = true by rw [HEJ.out]; exact hh)
        clear hh
        go_wp2_with fail
        go_ret
        exact ⟨⟨(j : Int), rfl, .inr ⟨j, hjl, rfl, HM.out, HX.out⟩⟩, HL1.out⟩
      | false =>
        have HM := Lib.hid (show ∀ x ∈ E.take (j + 1), hasI ids x.i = false by
          rw [List.take_succ_eq_append_getElem hjl, HEJ.out]
          intro x hx
          rcases List.mem_append.1 hx with hx | hx
          · exact HX.out x hx
          · rw [List.mem_singleton.1 hx]; exact hh)
        clear hh
        go_wp2_with fail
        go_roundw
        case rel => exact ⟨j + 1, by omega, by go_num, HM, HL1⟩
        case measure => simp [intOf]; omega
    · have HM := Lib.hid (show ∀ x ∈ E, hasI ids x.i = false by
        have h1 := HX.out
        rw [List.take_of_length_le (by omega)] at h1
        exact h1)
      go_wp2_with fail
      go_ret
      exact ⟨⟨-1, rfl, .inl ⟨rfl, HM.out⟩⟩, HL.out⟩

/-- the cells of zero messages -/
def zEv : Array Value := #[.int .i64 0, .int .i64 0, .int .i64 0, .string ByteArray.empty, .int .i64 0, .int .i64 0, .int .i64 0, .int .i64 0, .int .i64 0]
theorem zeros_len (n : Nat) : (Builtin.zeroCells zEv n).toList.length = n * 9 := by simp [Builtin.zeroCells, zEv]
theorem zeros_one (n : Nat) : ∀ v ∈ (Builtin.zeroCells zEv n).toList, v.oneCell' = true := by
  intro v hv
  unfold Builtin.zeroCells at hv
  rw [Array.toList_map, List.mem_map] at hv
  obtain ⟨i, _, rfl⟩ := hv
  have hs : zEv.size = 9 := rfl
  rw [hs]
  have h9 : i % 9 < 9 := Nat.mod_lt _ (by omega)
  generalize i % 9 = k at h9
  have : k = 0 ∨ k = 1 ∨ k = 2 ∨ k = 3 ∨ k = 4 ∨ k = 5 ∨ k = 6 ∨ k = 7 ∨ k = 8 := by omega
  rcases this with rfl | rfl | rfl | rfl | rfl | rfl | rfl | rfl | rfl <;> rfl
/-- zeros behind the first ones -/
theorem stores_at {P : Program} {k : Nat} {T : TypeId} (base : Nat) : ∀ (vs : List Value) (o : Nat) (w : World) (l : List Value), Box w k T l → base + o + vs.length ≤ l.length → (∀ v ∈ vs, v.oneCell' = true) → (storeCells ⟨k, base, none⟩ vs o).run P w = .ok () (storeMany w k (base + o) vs)
  | [], o, w, l, h, _, _ => rfl
  | v :: vs, o, w, l, h, hl, h1 => by
    have hadd : (⟨k, base, none⟩ : Addr).add o = ⟨k, base + o, none⟩ := by unfold Addr.add; split <;> simp_all
    have hlt : base + o < l.length := by simp at hl; omega
    have hc := h.cell (base + o) l[base + o] (List.getElem?_eq_getElem hlt)
    have hst : (store ((⟨k, base, none⟩ : Addr).add o) v).run P w = .ok () (w.setCell ⟨k, base + o, none⟩ v) := by
      rw [hadd, run_store P w _ v _ (h1 v (by simp)), hc]
      simp [h.frozen (base + o)]
    have ih := stores_at (P := P) base vs (o + 1) (w.setCell ⟨k, base + o, none⟩ v) (l.set (base + o) v) (Box.store [v] (base + o) _ _ h) (by simp at hl ⊢; omega) (fun x hx => h1 x (by simp [hx]))
    simp only [storeCells, Sem.run_bind, hst, Result.andThen_ok]
    exact ih
theorem setMany_take : ∀ (vs l : List Value) (o n : Nat), n ≤ o → (setMany l o vs).take n = l.take n
  | [], l, o, n, h => rfl
  | v :: vs, l, o, n, h => by
    show (setMany (l.set o v) (o + 1) vs).take n = _
    rw [setMany_take vs _ _ n (by omega), List.take_set_of_le (by omega)]
theorem setMany_length : ∀ (vs l : List Value) (o : Nat), (setMany l o vs).length = l.length
  | [], l, o => rfl
  | v :: vs, l, o => by
    show (setMany (l.set o v) (o + 1) vs).length = _
    rw [setMany_length vs, List.length_set]
/-- what clear leaves of a row that is cut at i -/
theorem run_clear_row {w : World} {B g n cap : Nat} {M : List Ev} (i : Nat) (ty : TypeId) (h : ROwn evS B w 81 (.slice (some ⟨g, 0, none⟩) n cap) M) (hi : i ≤ n) :
    ∃ w', (Builtin.clear_ #[35] ty #[.slice (some ⟨g, i * 9, none⟩) (n - i) (cap - i)]).run Try.prog w = .ok (.tuple #[]) w' ∧ ROwn evS B w' 81 (.slice (some ⟨g, 0, none⟩) i cap) (M.take i) ∧ w.grownBy w' (some g) := by
  obtain ⟨i0, hi0, hz0, hz1, hz2⟩ := info_parts infoEvent
  have hn : n = M.length := h.is.1
  rcases h.2 with ⟨e, _⟩ | ⟨g', c', cur, e, hb, hg, hm, hmx, hs, ht⟩
  · simp at e
  · simp only [Value.slice.injEq, Option.some.injEq, Addr.mk.injEq] at e
    obtain ⟨⟨rfl, -, -⟩, hnn, rfl⟩ := e
    have hs9 : cur.size = cap * 9 := hs
    have ht9 : cur.toList.take (M.length * 9) = flatF evS M := ht
    have hcl : cur.toList.length = cap * 9 := by simpa using hs9
    have hbx : Box w g 81 cur.toList := by unfold Box; simpa using hg
    have own : ∀ (w' : World) (l : List Value), Box w' g 81 l → l.length = cap * 9 → l.take (i * 9) = cur.toList.take (i * 9) → ROwn evS B w' 81 (.slice (some ⟨g, 0, none⟩) i cap) (M.take i) := by
      intro w' l hb' hl htake
      have hlen : (M.take i).length = i := by rw [List.length_take]; omega
      unfold ROwn
      rw [hlen]
      refine ⟨by rw [flatF_len, hlen], .inr ⟨g, cap, l.toArray, rfl, hb, hb', by omega, hmx, (show l.toArray.size = cap * 9 by simpa using hl), ?_⟩⟩
      show l.take (i * 9) = flatF evS (M.take i)
      rw [htake]
      have h2 : flatF evS M = flatF evS (M.take i) ++ flatF evS (M.drop i) := by rw [← flatF_app, List.take_append_drop]
      have h3 : (cur.toList.take (i * 9)) = (flatF evS M).take (i * 9) := by
        rw [← ht9, List.take_take, Nat.min_eq_left (Nat.mul_le_mul_right 9 (by omega))]
      rw [h3, h2, List.take_append_of_le_length (by rw [flatF_len, hlen]; exact Nat.le_refl _)]
      exact List.take_of_length_le (by rw [flatF_len, hlen]; exact Nat.le_refl _)
    by_cases h0 : n - i = 0
    · refine ⟨w, ?_, own w cur.toList hbx (by simpa using hs9) rfl, World.grownBy.refl _ _⟩
      rw [h0]
      simp [Builtin.clear_, run_underlying Try.underlying35]
    · obtain ⟨zs, hzs⟩ : ∃ zs, zs = (Builtin.zeroCells (Value.agg #[.int .i64 0, .int .i64 0, .int .i64 0, .string ByteArray.empty, .int .i64 0, .int .i64 0, .int .i64 0, .int .i64 0, .int .i64 0]).cells (n - i)).toList := ⟨_, rfl⟩
      have hzl : zs.length = (n - i) * 9 := by rw [hzs]; exact zeros_len _
      have hz1' : ∀ v ∈ zs, v.oneCell' = true := by rw [hzs]; exact zeros_one _
      have hst := stores_at (P := Try.prog) (i * 9) zs 0 w cur.toList hbx (by rw [hzl, hcl]; have := Nat.mul_le_mul_right 9 (show i + (n - i) ≤ cap by omega); omega) hz1'
      refine ⟨storeMany w g (i * 9) zs, ?_, own _ _ (Box.store zs (i * 9) w cur.toList hbx) (by rw [setMany_length]; exact hcl) (setMany_take zs _ _ _ (Nat.le_refl _)), store_grown zs _ _⟩
      have hz3 : (zeroValue 81).run Try.prog w = .ok (.agg #[.int .i64 0, .int .i64 0, .int .i64 0, .string ByteArray.empty, .int .i64 0, .int .i64 0, .int .i64 0, .int .i64 0, .int .i64 0]) w := by
        unfold zeroValue
        simp [typeInfo, hi0, hz0]
      obtain ⟨q, hq⟩ : ∃ q, n - i = q + 1 := ⟨n - i - 1, by omega⟩
      rw [hq] at hzs ⊢
      rw [hzs] at hst
      simp only [Builtin.clear_, List.getElem?_toArray, List.getElem?_cons_zero, Sem.run_bind, run_underlying Try.underlying35, Result.andThen_ok, hz3, hst, Nat.add_zero, Sem.run_pure]
      rw [hzs]

end Go.Proofs.Ytlcllbdalabciaa.Gat
