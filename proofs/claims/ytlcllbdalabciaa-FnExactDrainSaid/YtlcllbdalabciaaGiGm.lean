/-
  slices.DeleteFunc with the closure of keeper.remove; remove.
-/
import Derived.Test.YtlcllbdalabciaaGiFm
namespace Go.Proofs.Ytlcllbdalabciaa.Gat
open Go.RowKit
open Lnk (bOne bAfter IOwn IIs YOwn YIs below_keep below_drew' bcell low_after low_alloc grown_of_below)
set_option linter.unusedVariables false
set_option linter.unusedSimpArgs false

theorem wpList_clear_run {P : Program} {w : World} {ops : Array Oper} {rest : List Oper} {o : Oper} {a : Act} {Q : Exit → Act → World → Prop} (hgd : o.guard = none) (s : Operand) (t : TypeId)
    (ho : o.op = .call { callee := .builtin .clear, args := #[s], argTypes := #[t] }) (v : Value) (hs : a.eval s = v) {R : World → Prop}
    (hr : ∃ w', (Builtin.clear_ #[t] o.type #[v]).run P w = .ok (.tuple #[]) w' ∧ R w') (h : ∀ w', R w' → wpList P ops Q rest (a.put o.dst (.tuple #[])) w') : wpList P ops Q (o :: rest) a w :=
  wpList_plain hgd fun K hK => by
    obtain ⟨w', hr, h2⟩ := hr
    unfold Oper.wp execOp
    simp only [ho, resolve, invoke, builtin, Sem.run_bind, Sem.run_pure, Result.andThen_ok, List.map_toArray, List.map_cons, List.map_nil, hs, hr]
    exact hK _ _ (h w' h2)
/-- a row under way: the first i are those of the first j that stay -/
structure DelAt (ids : List Int) (E M : List Ev) (i j : Nat) : Prop where
  len : M.length = E.length
  ij : i < j
  jn : j ≤ E.length
  num : (keepL ids (E.take j)).length = i
  low : M.take i = keepL ids (E.take j)
  high : M.drop j = E.drop j
theorem DelAt.start {ids : List Int} {E : List Ev} {k : Nat} (hk : k < E.length) (h1 : hasI ids E[k].i = true) (h2 : ∀ x ∈ E.take k, hasI ids x.i = false) : DelAt ids E E k (k + 1) :=
  ⟨rfl, by omega, hk, by rw [keepL_snoc_no hk h1, keepL_all h2, List.length_take]; omega, by rw [keepL_snoc_no hk h1, keepL_all h2], rfl⟩
theorem DelAt.at {ids : List Int} {E M : List Ev} {i j : Nat} (h : DelAt ids E M i j) (hj : j < E.length) (hm : j < M.length) : M[j] = E[j] := by
  have h1 := congrArg (fun l => l[0]?) h.high
  simp only [List.getElem?_drop, Nat.add_zero] at h1
  rw [List.getElem?_eq_getElem hm, List.getElem?_eq_getElem hj] at h1
  injection h1
theorem DelAt.skip {ids : List Int} {E M : List Ev} {i j : Nat} (h : DelAt ids E M i j) (hj : j < E.length) (hx : hasI ids E[j].i = true) : DelAt ids E M i (j + 1) :=
  ⟨h.len, by have := h.ij; omega, hj, by rw [keepL_snoc_no hj hx]; exact h.num, by rw [keepL_snoc_no hj hx]; exact h.low, by
    have h1 := congrArg (List.drop 1) h.high
    rw [List.drop_drop, List.drop_drop] at h1
    exact h1⟩
theorem DelAt.keep {ids : List Int} {E M : List Ev} {i j : Nat} (h : DelAt ids E M i j) (hj : j < E.length) (hx : hasI ids E[j].i = false) : DelAt ids E (M.set i E[j]) (i + 1) (j + 1) := by
  have hl := h.len
  have hi := h.ij
  refine ⟨by rw [List.length_set]; exact hl, by omega, hj, by rw [keepL_snoc_yes hj hx, List.length_append, h.num]; rfl, ?_, ?_⟩
  · rw [List.take_succ_eq_append_getElem (by rw [List.length_set]; omega), List.getElem_set_self, List.take_set_of_le (Nat.le_refl _), h.low, keepL_snoc_yes hj hx]
  · have h1 := congrArg (List.drop 1) h.high
    rw [List.drop_drop, List.drop_drop] at h1
    rw [List.drop_set_of_lt (by omega)]
    exact h1

def DfEnd (B : Nat) (w : World) (ids : List Int) (ea : Option Addr) (ec : Nat) (E : List Ev) (e : Ending) (w' : World) : Prop :=
  e = .returned (.slice ea (keepL ids E).length ec) ∧ ROwn evS B w' 81 (.slice ea (keepL ids E).length ec) (keepL ids E) ∧ w.grownBy w' (Value.slice ea E.length ec).ownBlock
set_option maxRecDepth 100000 in
set_option maxHeartbeats 8000000 in
theorem deleteFn_any (w : World) (B kp Bi : Nat) (ia : Option Addr) (m ic : Nat) (ids : List Int) (ea : Option Addr) (ec : Nat) (E : List Ev) (h : IdB w kp Bi ia m ic ids) (hm : m ≤ 1048576) (he : ROwn evS B w 81 (.slice ea E.length ec) E) (hen : E.length ≤ 1048576) :
    Calls Try.prog 98 #[.slice ea E.length ec, .func (.func 99) #[] #[.pointer (some ⟨kp, 0, none⟩)]] w fun e w' => DfEnd B w ids ea ec E e w' := by
  have heg : ∀ (args : Array Value) (w1 : World), (callFunc 99 args).run Try.prog w1 = .ok (.enter 99 args) w1 := enters_of Try.func99 (by kernel_rfl) rfl
  have H := Lib.hid h
  have HE := Lib.hid he
  clear h he
  go_enter Try.func98, Try.ntmps98
  go_wp2_with fail
  refine (indexFn_any _ B kp Bi ia m ic ids ea ec E H.out hm HE.out.isN hen).mono ?_
  rintro e w1 ⟨⟨nn, rfl, hn⟩, hb⟩
  replace H := Lib.hid (H.out.below hb)
  replace HE := Lib.hid (HE.out.below hb)
  have HG := Lib.hid (grown_of_below hb (Value.slice ea E.length ec).ownBlock)
  clear hb
  rcases hn with ⟨rfl, hno⟩ | ⟨k, hk, rfl, hy, hno⟩
  · have HN := Lib.hid (keepL_all hno)
    clear hno
    go_wp2_with fail
    go_ret
    exact ⟨by rw [HN.out]; rfl, by rw [HN.out]; exact HE.out, HG.out⟩
  · obtain ⟨g, rfl, hg2⟩ := own_some HE.out (by omega)
    have HD := Lib.hid (DelAt.start hk hy hno)
    have hcap := HE.out.lecap
    have hke : ((k : Int) == -1) = false := by simp
    have hkb : (k : Int) ≤ 1048576 := by omega
    clear hno hy
    go_wp2_with fail
    go_loopw [5, 6] (fun ti tj wr => ∃ (i j : Nat) (M : List Ev), ti = .int .i64 i ∧ tj = .int .i64 j ∧ Hid (DelAt ids E M i j) ∧ Hid (ROwn evS B wr 81 (.slice (some ⟨g, 0, none⟩) E.length ec) M) ∧ Hid (w.grownBy wr (some g)) ∧ Hid (IdB wr kp Bi ia m ic ids) ∧ Hid (g < wr.heap.size)) (fun _ tj _ => E.length - (intOf tj).toNat)
    case atStart => exact ⟨k, k + 1, E, rfl, by go_num, HD, HE, HG, H, Lib.hid hg2⟩
    case round =>
      obtain ⟨i0, j, M, rfl, rfl, HD, HE, HG, H, HGW⟩ := hrel
      have hij := HD.out.ij
      have hjn := HD.out.jn
      by_cases hlt : (j : Int) < (E.length : Int)
      · have hjl : j < E.length := by omega
        have hjm : j < M.length := by rw [HD.out.len]; exact hjl
        obtain ⟨i, d, c, bd, at_, t, r, n, s, hej⟩ : ∃ i d c bd at_ t r n s, E[j] = ⟨i, d, c, bd, at_, t, r, n, s⟩ := ⟨_, _, _, _, _, _, _, _, _, rfl⟩
        have hmj := HD.out.at hjl hjm
        rw [hej] at hmj
        obtain ⟨c0, c1, c2, c3, c4, c5, c6, c7, c8⟩ := eown_cellx HE.out j hjm hmj
        have HEJ := Lib.hid hej
        clear hej hmj
        go_upto_region 8 with fail
        clear c0 c1 c2 c3 c4 c5 c6 c7 c8
        have hb := bOne wr (.cells #[.int .i64 i, .int .i64 d, .int .i64 c, .string bd, .int .i64 at_, .int .i64 t, .int .i64 r, .int .i64 n, .int .i64 s] 81)
        have HC := Lib.hid (Box.new wr [.int .i64 i, .int .i64 d, .int .i64 c, .string bd, .int .i64 at_, .int .i64 t, .int .i64 r, .int .i64 n, .int .i64 s] 81)
        replace H := Lib.hid (H.out.below hb)
        replace HE := Lib.hid (HE.out.below hb)
        replace HG := Lib.hid (HG.out.trans (grown_of_below hb _))
        clear hb
        obtain ⟨wk, hwk⟩ : ∃ V, V = wr.alloc (.cells #[.int .i64 i, .int .i64 d, .int .i64 c, .string bd, .int .i64 at_, .int .i64 t, .int .i64 r, .int .i64 n, .int .i64 s] 81) := ⟨_, rfl⟩
        obtain ⟨kt, hkt⟩ : ∃ k, k = wr.heap.size := ⟨_, rfl⟩
        have HTG := Lib.hid (show g < kt by rw [hkt]; exact HGW.out)
        rw [← hwk] at H HE HG HC ⊢
        rw [← hkt] at HC ⊢
        have HGK := Lib.hid (show g < wk.heap.size by have := HC.out.lt; have := HTG.out; omega)
        clear hwk hkt HGW
        go_wp2_with (first | (refine wpList_load_box rfl _ 81 rfl rfl HC.out _ Try.underlying81 sizeEvB ?_) | fail)
        refine (delFn_any _ kp Bi ia m ic ids i d c bd at_ t r n s H.out hm).mono ?_
        rintro e w2 ⟨rfl, hb⟩
        replace H := Lib.hid (H.out.below hb)
        replace HE := Lib.hid (HE.out.below hb)
        replace HC := Lib.hid (HC.out.below hb)
        replace HG := Lib.hid (HG.out.trans (grown_of_below hb _))
        replace HGK := Lib.hid (Nat.lt_of_lt_of_le HGK.out hb.size)
        clear hb
        cases hh : hasI ids i with
        | true =>
          have HD2 := Lib.hid (HD.out.skip hjl (by rw [HEJ.out]; exact hh))
          clear hh
          go_wp2_with fail
          go_roundw
          case rel => exact ⟨i0, j + 1, M, rfl, by go_num, HD2, HE, HG, H, HGK⟩
          case measure => simp [intOf]; omega
        | false =>
          have hd2 := HD.out.keep hjl (by rw [HEJ.out]; exact hh)
          rw [HEJ.out] at hd2
          have HD2 := Lib.hid hd2
          have him : i0 < M.length := by rw [HD.out.len]; omega
          have hie : (i0 : Int) < (E.length : Int) := by omega
          obtain ⟨⟨z0, z1, z2, z3, z4, z5, z6, z7, z8, d0, d1, d2, d3, d4, d5, d6, d7, d8⟩, f0, f1, f2, f3, f4, f5, f6, f7, f8⟩ := eown_at HE.out i0 him
          have hst := eown_set HE.out i0 him _ i d c bd at_ t r n s rfl
          have hat : (evR (.slice (some ⟨g, 0, none⟩) E.length ec) M).At B w2 := by
            have h1 := HE.out
            unfold ROwn at h1
            exact h1
          obtain ⟨w4, hw4⟩ : ∃ V, V = ((((((((w2.setCell ⟨g, i0 * 9, none⟩ (.int .i64 i)).setCell ⟨g, i0 * 9 + 1, none⟩ (.int .i64 d)).setCell ⟨g, i0 * 9 + 2, none⟩ (.int .i64 c)).setCell ⟨g, i0 * 9 + 3, none⟩ (.string bd)).setCell ⟨g, i0 * 9 + 4, none⟩ (.int .i64 at_)).setCell ⟨g, i0 * 9 + 5, none⟩ (.int .i64 t)).setCell ⟨g, i0 * 9 + 6, none⟩ (.int .i64 r)).setCell ⟨g, i0 * 9 + 7, none⟩ (.int .i64 n)).setCell ⟨g, i0 * 9 + 8, none⟩ (.int .i64 s) := ⟨_, rfl⟩
          rw [← hw4] at hst
          have HST := Lib.hid hst
          have HIB := Lib.hid (H.out.ev hat hst.2)
          have HW4 := Lib.hid hw4
          clear hh hd2 hst hat hw4 him
          go_upto_region 10 with (first | (refine wpList_load_box rfl _ 81 rfl rfl HC.out _ Try.underlying81 sizeEvB ?_) | fail)
          clear d0 d1 d2 d3 d4 d5 d6 d7 d8 f0 f1 f2 f3 f4 f5 f6 f7 f8
          rw [← HW4.out]
          go_wp2_with fail
          go_roundw
          case rel => exact ⟨i0 + 1, j + 1, _, by go_num, by go_num, HD2, Lib.hid HST.out.1, Lib.hid (HG.out.trans HST.out.2), HIB, Lib.hid (Nat.lt_of_lt_of_le HGK.out HST.out.2.size)⟩
          case measure => simp [intOf]; omega
      · have hje : j = E.length := by omega
        have HK := Lib.hid (show M.take i0 = keepL ids E by have h1 := HD.out.low; rw [hje, List.take_length] at h1; exact h1)
        have HKN := Lib.hid (show (keepL ids E).length = i0 by have h1 := HD.out.num; rw [hje, List.take_length] at h1; exact h1)
        have hie : (i0 : Int) ≤ (E.length : Int) := by omega
        have hic : (i0 : Int) ≤ (ec : Int) := by omega
        have hne : ¬ ec = i0 := by omega
        have HCL := Lib.hid (run_clear_row i0 0 HE.out (by omega))
        have hlo : (E.length : Int) ≤ (ec : Int) := by omega
        go_upto_region 12 with (first | (refine wpList_clear_run rfl _ _ rfl _ rfl HCL.out ?_; intro w5 h5; have H5 := Lib.hid h5; clear h5) | fail)
        have HGG := Lib.hid (HG.out.trans H5.out.2)
        have HOO := Lib.hid (show ROwn evS B w5 81 (.slice (some ⟨g, 0, none⟩) (keepL ids E).length ec) (keepL ids E) by
          have h1 := H5.out.1
          rw [HK.out] at h1
          rw [HKN.out]
          exact h1)
        clear H5 HG HE HCL HK HD H
        simp only [Act.put]
        go_wp2_with fail
        go_ret
        exact ⟨by rw [HKN.out]; rfl, HOO.out, HGG.out⟩

end Go.Proofs.Ytlcllbdalabciaa.Gat
