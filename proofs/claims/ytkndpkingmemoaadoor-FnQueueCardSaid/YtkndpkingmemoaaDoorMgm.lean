/-
  The program's GateOk as a Bool, hasDevice, slices.Contains, and keeper.back.
  The walks of the program's closures, of Forget and Late.
  The walks of the program's Join, Leave and Launch.
  keeper.relink; the program's Connect and Disconnect.
-/
import Derived.Test.YtkndpkingmemoaaDoorMgl
import Derived.Test.YtkndpkingmemoaaDoorMgj
import Derived.Test.YtkndpkingmemoaaDoorMgb
import Derived.Deep.DeepCutAuto
import Derived.Test.YtkndpkingmemoaaDoorMgf
import Derived.Shelf.Abstract
namespace Go.Proofs.YtkndpkingmemoaaDoor.Gat
open Go.RowKit
open Lnk (bOne bAfter IOwn IIs YOwn YIs below_keep below_drew' bcell low_after low_alloc grown_of_below)
set_option linter.unusedVariables false
set_option linter.unusedSimpArgs false

theorem implGokB_any (w : World) (de qu wi ti qa bu le pb pc pj pt nw la : Int) (ea : Option Addr) (en ec : Nat) (ka : Option Addr) (kn kc : Nat) (tu : Int) (fa : Option Addr) (fn fc : Nat) (ra : Option Addr) (rn rc : Nat) (tk ac dr : Int) (E : List Ev) (K : List Lk) (F R : List Int) (hE : ∀ e ∈ E, (Lit.int .i64 e.i).wf = true) (hR : ∀ x ∈ R, (Lit.int .i64 x).wf = true) (hen : en ≤ 1048576) (hrn : rn ≤ 1048576) (h : GIs w.heap.size w ea en ka kn fa fn ra rn E K F R) :
    Calls Tryd.prog 13 #[.agg #[.int .i64 de, .int .i64 qu, .int .i64 wi, .int .i64 ti, .int .i64 qa, .int .i64 bu, .int .i64 le, .int .i64 pb, .int .i64 pc, .int .i64 pj, .int .i64 pt, .int .i64 nw, .int .i64 la, .slice ea en ec, .slice ka kn kc, .int .i64 tu, .slice fa fn fc, .slice ra rn rc, .int .i64 tk, .int .i64 ac, .int .i64 dr]] w fun e w' => e = .returned (.bool (gokB de qu wi ti qa bu le pb pc pj pt nw la en kn tu fn rn tk ac dr E K F R)) ∧ Below w.heap.size w w' :=
  (implGateOk_any w de qu wi ti qa bu le pb pc pj pt nw la ea en ec ka kn kc tu fa fn fc ra rn rc tk ac dr E K F R hE hR hen hrn h).mono fun e w' ⟨⟨x, he, hx⟩, hb⟩ => by
    rw [gate_iff h.ev.row.hlen h.lk.hlen h.lf.hlen h.lt.hlen] at hx
    exact ⟨by rw [gokB_of hx]; exact he, hb⟩

set_option maxRecDepth 100000 in
set_option maxHeartbeats 1000000 in
theorem hasDev_any (w : World) (de qu wi ti qa bu le pb pc pj pt nw la : Int) (ea : Option Addr) (en ec : Nat) (ka : Option Addr) (kn kc : Nat) (tu : Int) (fa : Option Addr) (fn fc : Nat) (ra : Option Addr) (rn rc : Nat) (tk ac dr : Int) (d : Int) :
    Calls Tryd.prog 57 #[.agg #[.int .i64 de, .int .i64 qu, .int .i64 wi, .int .i64 ti, .int .i64 qa, .int .i64 bu, .int .i64 le, .int .i64 pb, .int .i64 pc, .int .i64 pj, .int .i64 pt, .int .i64 nw, .int .i64 la, .slice ea en ec, .slice ka kn kc, .int .i64 tu, .slice fa fn fc, .slice ra rn rc, .int .i64 tk, .int .i64 ac, .int .i64 dr], .int .i64 d] w fun e w' => e = .returned (.bool (inB 1 de d)) ∧ Below w.heap.size w w' := by
  have HL := Lib.hid (bOne w (.cells #[.int .i64 de, .int .i64 qu, .int .i64 wi, .int .i64 ti, .int .i64 qa, .int .i64 bu, .int .i64 le, .int .i64 pb, .int .i64 pc, .int .i64 pj, .int .i64 pt, .int .i64 nw, .int .i64 la, .slice ea en ec, .slice ka kn kc, .int .i64 tu, .slice fa fn fc, .slice ra rn rc, .int .i64 tk, .int .i64 ac, .int .i64 dr] 33))
  by_cases h1 : 1 ≤ d
  · by_cases h2 : d ≤ de
    · have HQ := Lib.hid (show inB 1 de d = true by unfold inB; simp [h1, h2])
      go_enter Tryd.func57, Tryd.ntmps57
      go_wp2_with fail
      go_ret
      exact ⟨by rw [HQ.out]; rfl, HL.out⟩
    · have HQ := Lib.hid (show inB 1 de d = false by unfold inB; simp [h1, h2])
      go_enter Tryd.func57, Tryd.ntmps57
      go_wp2_with fail
      go_ret
      exact ⟨by rw [HQ.out]; rfl, HL.out⟩
  · have HQ := Lib.hid (show inB 1 de d = false by unfold inB; simp [h1])
    go_enter Tryd.func57, Tryd.ntmps57
    go_wp2_with fail
    go_ret
    exact ⟨by rw [HQ.out]; rfl, HL.out⟩

/-- does a number stand in a list -/
def hasI (xs : List Int) (x : Int) : Bool := decide (x ∈ xs)
theorem hasI_yes {xs : List Int} {x : Int} (h : x ∈ xs) : hasI xs x = true := decide_eq_true h
theorem hasI_no {xs : List Int} {x : Int} (h : x ∉ xs) : hasI xs x = false := decide_eq_false h
def IxEnd (xs : List Int) (x : Int) (e : Ending) : Prop := ∃ n : Int, e = .returned (.int .i64 n) ∧ (0 ≤ n ↔ x ∈ xs)
set_option maxRecDepth 100000 in
set_option maxHeartbeats 1000000 in
theorem index_any (w : World) (B : Nat) (a : Option Addr) (len cap : Nat) (xs : List Int) (x : Int) (h : IIs B w a len xs) (hlen : len ≤ 1048576) :
    Calls Tryd.prog 79 #[.slice a len cap, .int .i64 x] w fun e w' => IxEnd xs x e ∧ w = w' := by
  have HT := Lib.hid h
  have HN := Lib.hid h.hlen
  clear h
  go_enter Tryd.func79, Tryd.ntmps79
  go_wp2
  go_loop [8] (fun i => ∃ j : Nat, j ≤ len ∧ i = .int .i64 j ∧ Hid (x ∉ xs.take j)) (fun i => len - (intOf i).toNat)
  case atStart => exact ⟨0, by omega, rfl, Lib.hid (by simp)⟩
  case round =>
    obtain ⟨j, hj, rfl, HX⟩ := hrel
    by_cases hlt : (j : Int) < (len : Int)
    · have hjl : j < xs.length := by have := HN.out; omega
      obtain ⟨b, off, y, rfl, hb, hy, c0⟩ := iis_at HT.out j hjl
      have HY := Lib.hid hy
      clear hy
      by_cases he : x = y
      · have HM := Lib.hid (show x ∈ xs by rw [he, ← HY.out]; exact List.getElem_mem _)
        subst he
        have hee : (x == x) = true := by simp
        go_wp2
        go_ret
        exact ⟨⟨(j : Int), rfl, ⟨fun _ => HM.out, fun _ => by omega⟩⟩, rfl⟩
      · have hee : (x == y) = false := by simp [he]
        have HM := Lib.hid (show x ∉ xs.take (j + 1) by
          rw [List.take_succ_eq_append_getElem hjl, HY.out]
          simp only [List.mem_append, List.mem_singleton, not_or]
          exact ⟨HX.out, he⟩)
        clear he
        go_wp2
        go_round
        case rel => exact ⟨j + 1, by omega, by go_num, HM⟩
        case measure => simp [intOf]; omega
    · have HM := Lib.hid (show x ∉ xs by
        have h1 := HX.out
        rw [List.take_of_length_le (by have := HN.out; omega)] at h1
        exact h1)
      go_wp2
      go_ret
      exact ⟨⟨-1, rfl, ⟨fun h => by omega, fun h => absurd h HM.out⟩⟩, rfl⟩

set_option maxRecDepth 100000 in
set_option maxHeartbeats 1000000 in
theorem contains_any (w : World) (B : Nat) (a : Option Addr) (len cap : Nat) (xs : List Int) (x : Int) (h : IIs B w a len xs) (hlen : len ≤ 1048576) :
    Calls Tryd.prog 69 #[.slice a len cap, .int .i64 x] w fun e w' => e = .returned (.bool (hasI xs x)) ∧ w = w' := by
  have HT := Lib.hid h
  clear h
  go_enter Tryd.func69, Tryd.ntmps69
  go_wp2_with fail
  refine (index_any _ B a len cap xs x HT.out hlen).mono ?_
  rintro e w1 ⟨⟨n, rfl, hn⟩, rfl⟩
  have HN := Lib.hid hn
  clear hn
  by_cases h0 : 0 ≤ n
  · have HQ := Lib.hid (hasI_yes (HN.out.1 h0))
    have hd0 : decide (0 ≤ n) = true := by simpa using h0
    go_wp2_with fail
    go_ret
    exact ⟨by rw [HQ.out]; rfl, rfl⟩
  · have HQ := Lib.hid (hasI_no (fun hm => h0 (HN.out.2 hm)))
    have hd0 : decide (0 ≤ n) = false := by simpa using h0
    go_wp2_with fail
    go_ret
    exact ⟨by rw [HQ.out]; rfl, rfl⟩

/-- those messages that are told are back -/
def bkI (ids : List Int) (e : Ev) : Ev := if hasI ids e.i then bkE e else e
def mapB (ids : List Int) (E : List Ev) : List Ev := E.map (bkI ids)
def mapJ (ids : List Int) (E : List Ev) (j : Nat) : List Ev := (E.take j).map (bkI ids) ++ E.drop j
theorem bkI_b (ids : List Int) (e : Ev) : (bkI ids e).b = e.b := by unfold bkI; split <;> rfl
theorem mapJ_len (ids : List Int) (E : List Ev) (j : Nat) : (mapJ ids E j).length = E.length := by simp [mapJ]; omega
theorem mapJ_zero (ids : List Int) (E : List Ev) : mapJ ids E 0 = E := by simp [mapJ]
theorem mapJ_all (ids : List Int) (E : List Ev) : mapJ ids E E.length = mapB ids E := by simp [mapJ, mapB]
theorem mapJ_at (ids : List Int) (E : List Ev) (j : Nat) (h : j < E.length) (h' : j < (mapJ ids E j).length) : (mapJ ids E j)[j] = E[j] := by
  have e : ((E.take j).map (bkI ids)).length = j := by rw [List.length_map, List.length_take]; omega
  have h2 : ∀ (M : List Ev) (hM : j < M.length), M = (E.take j).map (bkI ids) ++ E.drop j → M[j] = E[j] := fun M hM e2 => by
    subst e2
    have h3 : ((E.take j).map (bkI ids) ++ E.drop j)[j]? = E[j]? := by rw [List.getElem?_append_right (by omega), e, Nat.sub_self, List.getElem?_drop, Nat.add_zero]
    rw [List.getElem?_eq_getElem hM, List.getElem?_eq_getElem h] at h3
    injection h3
  exact h2 _ h' rfl
theorem mapJ_step (ids : List Int) (E : List Ev) (j : Nat) (h : j < E.length) : (mapJ ids E j).set j (bkI ids E[j]) = mapJ ids E (j + 1) := by
  unfold mapJ
  have e : ((E.take j).map (bkI ids)).length = j := by rw [List.length_map, List.length_take]; omega
  rw [List.set_append, if_neg (by omega), e, Nat.sub_self, List.drop_eq_getElem_cons h, List.set_cons_zero, List.take_succ_eq_append_getElem h, List.map_append, List.append_assoc]
  rfl
theorem mapJ_stay (ids : List Int) (E : List Ev) (j : Nat) (h : j < E.length) (hn : hasI ids E[j].i = false) : mapJ ids E (j + 1) = mapJ ids E j := by
  rw [← mapJ_step ids E j h]
  have e : bkI ids E[j] = E[j] := by unfold bkI; rw [hn]; rfl
  have h0 : j < (mapJ ids E j).length := by rw [mapJ_len]; exact h
  have e2 := mapJ_at ids E j h h0
  have h3 : (mapJ ids E j).set j ((mapJ ids E j)[j]'h0) = mapJ ids E j := by simp
  rw [e2] at h3
  rw [e]
  exact h3
theorem body_mapJ {ids : List Int} {E : List Ev} {j : Nat} (h : ∀ e ∈ E, e.b.size ≤ maxLen) : ∀ e ∈ mapJ ids E j, e.b.size ≤ maxLen := by
  intro e he
  unfold mapJ at he
  rcases List.mem_append.1 he with he | he
  · obtain ⟨e', he', rfl⟩ := List.mem_map.1 he
    rw [bkI_b]
    exact h e' (List.mem_of_mem_take he')
  · exact h e (List.mem_of_mem_drop he)
/-- a row of ints of the call's own, beside a change in a row of another type -/
theorem inR_kept {B Bi : Nat} {w w' : World} {v : Value} {xs : List Int} {r : Rw} (h : (inR v xs).At Bi w) (hr : r.At B w) (hne : r.E ≠ 3) (hg : w.grownBy w' r.v.ownBlock) : (inR v xs).At Bi w' :=
  h.kept hg (by
    have h1 := h.apart hr (fun e => hne e.symm)
    exact h1)
theorem inR_below {Bi : Nat} {w w' : World} {v : Value} {xs : List Int} (h : (inR v xs).At Bi w) (hb : Below w.heap.size w w') : (inR v xs).At Bi w' := h.kept (grown_of_below hb none) (by
  cases hv : (inR v xs).v.ownBlock with
  | none => exact .inl rfl
  | some k => exact .inr (by simp))
theorem sizeEvB : (Tryd.prog.info? 55).map (·.size) = some 9 := by kernel_rfl
theorem ne_ei : (55 : TypeId) ≠ 3 := by decide

set_option maxRecDepth 100000 in
set_option maxHeartbeats 8000000 in
theorem keepBack_any (w : World) (B Bi kb : Nat) (T : TypeId) (rest : List Value) (de qu wi ti qa bu le pb pc pj pt nw la : Int) (ea : Option Addr) (ec : Nat) (ka : Option Addr) (kc : Nat) (tu : Int) (fa : Option Addr) (fc : Nat) (ra : Option Addr) (rc : Nat) (tk ac dr : Int) (vs : List Value) (E : List Ev) (K : List Lk) (F R : List Int) (ia : Option Addr) (ic : Nat) (ids : List Int) (hx : Box w kb T ([.int .i64 de, .int .i64 qu, .int .i64 wi, .int .i64 ti, .int .i64 qa, .int .i64 bu, .int .i64 le, .int .i64 pb, .int .i64 pc, .int .i64 pj, .int .i64 pt, .int .i64 nw, .int .i64 la, .slice ea E.length ec, .slice ka K.length kc, .int .i64 tu, .slice fa F.length fc, .slice ra R.length rc, .int .i64 tk, .int .i64 ac, .int .i64 dr] ++ rest)) (hT : rowTy T = false) (h : GOwn B w (.slice ea E.length ec) (.slice ka K.length kc) (.slice fa F.length fc) (.slice ra R.length rc) vs E K F R) (hB : B ≤ w.heap.size) (hi : (inR (.slice ia ids.length ic) ids).At Bi w) (hen : E.length ≤ 1048576) (hil : ids.length ≤ 1048576) :
    Calls Tryd.prog 58 #[.pointer (some ⟨kb, 0, none⟩), .slice ia ids.length ic] w fun e w' => e = .returned (.tuple #[]) ∧ Box w' kb T ([.int .i64 de, .int .i64 qu, .int .i64 wi, .int .i64 ti, .int .i64 qa, .int .i64 bu, .int .i64 le, .int .i64 pb, .int .i64 pc, .int .i64 pj, .int .i64 pt, .int .i64 nw, .int .i64 la, .slice ea E.length ec, .slice ka K.length kc, .int .i64 tu, .slice fa F.length fc, .slice ra R.length rc, .int .i64 tk, .int .i64 ac, .int .i64 dr] ++ rest) ∧ GOwn B w' (.slice ea E.length ec) (.slice ka K.length kc) (.slice fa F.length fc) (.slice ra R.length rc) vs (mapB ids E) K F R ∧ Below B w w' ∧ Keep4 w w' := by
  have HX := Lib.hid hx
  have HO := Lib.hid h
  have HI := Lib.hid hi
  have HBY := Lib.hid h.body
  clear hx h hi
  have c13 := HX.out.cell 13 _ rfl
  go_enter Tryd.func58, Tryd.ntmps58
  go_wp2_with fail
  clear c13
  go_loopw [12] (fun i wr => ∃ j : Nat, j ≤ E.length ∧ i = .int .i64 j ∧ Hid (Box wr kb T ([.int .i64 de, .int .i64 qu, .int .i64 wi, .int .i64 ti, .int .i64 qa, .int .i64 bu, .int .i64 le, .int .i64 pb, .int .i64 pc, .int .i64 pj, .int .i64 pt, .int .i64 nw, .int .i64 la, .slice ea E.length ec, .slice ka K.length kc, .int .i64 tu, .slice fa F.length fc, .slice ra R.length rc, .int .i64 tk, .int .i64 ac, .int .i64 dr] ++ rest)) ∧ Hid (GOwn B wr (.slice ea E.length ec) (.slice ka K.length kc) (.slice fa F.length fc) (.slice ra R.length rc) vs (mapJ ids E j) K F R) ∧ Hid ((inR (.slice ia ids.length ic) ids).At Bi wr) ∧ Hid (Below B w wr) ∧ Hid (Keep4 w wr) ∧ Hid (B ≤ wr.heap.size)) (fun i _ => E.length - (intOf i).toNat)
  case atStart => exact ⟨0, by omega, rfl, HX, Lib.hid (by rw [mapJ_zero]; exact HO.out), HI, Lib.hid (Below.refl _ _), Lib.hid (Keep4.refl _), Lib.hid hB⟩
  case round =>
    obtain ⟨j, hj, rfl, HX, HO, HI, HL, HK4, HBW⟩ := hrel
    by_cases hlt : (j : Int) < (E.length : Int)
    · have hjl : j < E.length := by omega
      have hjm : j < (mapJ ids E j).length := by rw [mapJ_len]; exact hjl
      have hev : ROwn evS B wr 55 (.slice ea E.length ec) (mapJ ids E j) := HO.out.evO
      obtain ⟨g, rfl, hg2⟩ := own_some hev (by rw [mapJ_len]; omega)
      have hg1 : B ≤ g := (World.ownsRow.lt hev g rfl).1
      obtain ⟨i, d, c, bd, at_, t, r, n, s, hej⟩ : ∃ i d c bd at_ t r n s, E[j] = ⟨i, d, c, bd, at_, t, r, n, s⟩ := ⟨_, _, _, _, _, _, _, _, _, rfl⟩
      have hm := mapJ_at ids E j hjl hjm
      rw [hej] at hm
      obtain ⟨c0, c1, c2, c3, c4, c5, c6, c7, c8⟩ := eown_cellx hev j hjm hm
      have HEJ := Lib.hid hej
      have HJM := Lib.hid hjm
      clear hej hm hjm
      go_upto_region 3 with fail
      clear c0 c1 c2 c3 c4 c5 c6 c7 c8
      have hb := bOne wr (.cells #[.int .i64 i, .int .i64 d, .int .i64 c, .string bd, .int .i64 at_, .int .i64 t, .int .i64 r, .int .i64 n, .int .i64 s] 55)
      have HC := Lib.hid (Box.new wr [.int .i64 i, .int .i64 d, .int .i64 c, .string bd, .int .i64 at_, .int .i64 t, .int .i64 r, .int .i64 n, .int .i64 s] 55)

      replace HX := Lib.hid (HX.out.below hb)
      replace HO := Lib.hid (HO.out.below hb)
      replace HI := Lib.hid (inR_below HI.out hb)
      replace HL := Lib.hid (HL.out.trans (hb.mono HBW.out))
      replace HK4 := Lib.hid (HK4.out.trans (Keep4.below hb))
      replace HBW := Lib.hid (Nat.le_trans HBW.out hb.size)
      clear hb
      obtain ⟨wk, hwk⟩ : ∃ V, V = wr.alloc (.cells #[.int .i64 i, .int .i64 d, .int .i64 c, .string bd, .int .i64 at_, .int .i64 t, .int .i64 r, .int .i64 n, .int .i64 s] 55) := ⟨_, rfl⟩
      obtain ⟨kt, hkt⟩ : ∃ k, k = wr.heap.size := ⟨_, rfl⟩
      have HTG := Lib.hid (show g < kt by rw [hkt]; exact hg2)
      rw [← hwk] at HX HO HI HL HK4 HBW HC ⊢
      rw [← hkt] at HC ⊢
      clear hwk hkt hg2 hev
      have d0 := HC.out.cell 0 _ rfl
      go_wp2_with fail
      clear d0
      refine (contains_any _ wk.heap.size ia ids.length ic ids i (Lnk.IOwn.isN (inR_at.1 HI.out)) hil).mono ?_
      rintro e w1 ⟨rfl, rfl⟩
      cases hh : hasI ids i with
      | false =>
        have HS := Lib.hid (mapJ_stay ids E j hjl (by rw [HEJ.out]; exact hh))
        clear hh
        go_wp2_with fail
        go_roundw
        case rel => exact ⟨j + 1, by omega, by go_num, HX, Lib.hid (by rw [HS.out]; exact HO.out), HI, HL, HK4, HBW⟩
        case measure => simp [intOf]; omega
      | true =>
        have HS := Lib.hid (show (mapJ ids E j).set j ⟨i, d, c, bd, at_, t, r, n, Evt.bk s⟩ = mapJ ids E (j + 1) by
          rw [← mapJ_step ids E j hjl, HEJ.out]
          unfold bkI
          rw [if_pos hh]
          rfl)
        clear hh
        go_upto_region 4 with fail

        have hb := below_drew' (Below.refl wk.heap.size wk)
        replace HX := Lib.hid (HX.out.below hb)
        replace HO := Lib.hid (HO.out.below hb)
        replace HI := Lib.hid (inR_below HI.out hb)
        replace HL := Lib.hid (HL.out.trans (hb.mono HBW.out))
        replace HK4 := Lib.hid (HK4.out.trans (Keep4.below hb))
        replace HBW := Lib.hid (Nat.le_trans HBW.out hb.size)
        replace HC := Lib.hid (HC.out.below hb)
        clear hb
        refine wp_region_held_drew (S := fun w' => w'.cell? ⟨kb, 13, none⟩ = some (.slice (some ⟨g, 0, none⟩) E.length ec) ∧ Box w' kt 55 [.int .i64 i, .int .i64 d, .int .i64 c, .string bd, .int .i64 at_, .int .i64 t, .int .i64 r, .int .i64 n, .int .i64 s]) (by kernel_rfl) ⟨HX.out.cell 13 _ rfl, HC.out⟩ (fun hHeld => ?_)
        obtain ⟨wd, hwd⟩ : ∃ x, x = wk.drew := ⟨_, rfl⟩
        rw [← hwd] at HX HO HI HL HK4 HBW HC hHeld ⊢
        clear hwd
        refine wpAnyH_take (i := 0) (oi := { dst := some _, op := _, type := _, pos := _, after := _, guard := _ }) (v := ?_) rfl (by kernel_rfl) (by kernel_rfl) (by kernel_rfl) (fun _ _ _ h => h) ?_ (by with_reducible assumption) ?_
        rotate_left 1
        focus (refine Or.inl ⟨by rfl, ?_⟩; intro wq hSw; go_simp; try with_reducible rfl)
        try simp only [Act.put, List.setIfInBounds_toArray, List.set_cons_zero, List.set_cons_succ]
        refine wpAnyH_take (i := 1) (oi := { dst := some _, op := _, type := _, pos := _, after := _, guard := _ }) (v := ?_) rfl (by kernel_rfl) (by kernel_rfl) (by kernel_rfl) (fun _ _ _ h => h) ?_ (by with_reducible assumption) ?_
        rotate_left 1
        focus (refine Or.inl ⟨by rfl, ?_⟩; intro wq hSw; go_simp; try with_reducible rfl)
        try simp only [Act.put, List.setIfInBounds_toArray, List.set_cons_zero, List.set_cons_succ]
        refine wpAnyH_take (i := 2) (oi := { dst := some _, op := _, type := _, pos := _, after := _, guard := _ }) (v := ?_) rfl (by kernel_rfl) (by kernel_rfl) (by kernel_rfl) (fun _ _ _ h => h) ?_ (by with_reducible assumption) ?_
        rotate_left 1
        focus (refine Or.inl ⟨by rfl, ?_⟩; intro wq hSw; go_simp; try with_reducible rfl)
        try simp only [Act.put, List.setIfInBounds_toArray, List.set_cons_zero, List.set_cons_succ]
        refine wpAnyH_take (i := 3) (oi := { dst := some _, op := _, type := _, pos := _, after := _, guard := _ }) (v := ?_) rfl (by kernel_rfl) (by kernel_rfl) (by kernel_rfl) (fun _ _ _ h => h) ?_ (by with_reducible assumption) ?_
        rotate_left 1
        focus (refine Or.inl ⟨by rfl, ?_⟩; intro wq hSw; go_simp; try with_reducible rfl)
        try simp only [Act.put, List.setIfInBounds_toArray, List.set_cons_zero, List.set_cons_succ]
        refine wpAnyH_take (i := 4) (oi := { dst := some _, op := _, type := _, pos := _, after := _, guard := _ }) (v := ?_) rfl (by kernel_rfl) (by kernel_rfl) (by kernel_rfl) (fun _ _ _ h => h) ?_ (by with_reducible assumption) ?_
        rotate_left 1
        focus (refine Or.inl ⟨by rfl, ?_⟩; intro wq hSw; have q0 := hSw.1; go_simp; try with_reducible rfl)
        try simp only [Act.put, List.setIfInBounds_toArray, List.set_cons_zero, List.set_cons_succ]
        refine wpAnyH_take (i := 5) (oi := { dst := some _, op := _, type := _, pos := _, after := _, guard := _ }) (v := ?_) rfl (by kernel_rfl) (by kernel_rfl) (by kernel_rfl) (fun _ _ _ h => h) ?_ (by with_reducible assumption) ?_
        rotate_left 1
        focus (refine Or.inl ⟨by rfl, ?_⟩; intro wq hSw; go_simp; try with_reducible rfl)
        try simp only [Act.put, List.setIfInBounds_toArray, List.set_cons_zero, List.set_cons_succ]
        refine wpAnyH_take (i := 6) (oi := { dst := some _, op := _, type := _, pos := _, after := _, guard := _ }) (v := ?_) rfl (by kernel_rfl) (by kernel_rfl) (by kernel_rfl) (fun _ _ _ h => h) ?_ (by with_reducible assumption) ?_
        rotate_left 1
        focus (refine Or.inl ⟨by rfl, ?_⟩; intro wq hSw; refine exec_load_box ?_ 55 ?_ ?_ hSw.2 _ Tryd.underlying55 sizeEvB; rotate_left 1; rfl; rfl)
        try simp only [Act.put, List.setIfInBounds_toArray, List.set_cons_zero, List.set_cons_succ]
        refine wpAnyH_ready (rs := [7]) (by kernel_rfl) (by simp) ?_
        refine AllReadyH.cons rfl (fun KC hKC => ?_) AllReadyH.nil
        go_simp
        refine (Evt.back_any i d c bd at_ t r n s _).mono ?_
        rintro e w3 ⟨rfl, hb⟩
        replace HX := Lib.hid (HX.out.below hb)
        replace HO := Lib.hid (HO.out.below hb)
        replace HI := Lib.hid (inR_below HI.out hb)
        replace HL := Lib.hid (HL.out.trans (hb.mono HBW.out))
        replace HK4 := Lib.hid (HK4.out.trans (Keep4.below hb))
        replace HBW := Lib.hid (Nat.le_trans HBW.out hb.size)
        replace HC := Lib.hid (HC.out.below hb)
        clear hb hHeld
        dsimp only
        refine hKC.out _ _ (⟨HX.out.cell 13 _ rfl, HC.out⟩) (fun hHeld => ?_)
        clear hKC
        try simp only [Act.put, List.setIfInBounds_toArray, List.set_cons_zero, List.set_cons_succ]
        have hev : ROwn evS B w3 55 (.slice (some ⟨g, 0, none⟩) E.length ec) (mapJ ids E j) := HO.out.evO
        obtain ⟨⟨z0, z1, z2, z3, z4, z5, z6, z7, z8, d0, d1, d2, d3, d4, d5, d6, d7, d8⟩, f0, f1, f2, f3, f4, f5, f6, f7, f8⟩ := eown_at hev j HJM.out
        have hst := eown_set hev j HJM.out _ i d c bd at_ t r n (Evt.bk s) rfl
        refine wpAnyH_take (i := 8) (oi := { dst := some _, op := _, type := _, pos := _, after := _, guard := _ }) (v := ?_) rfl (by kernel_rfl) (by kernel_rfl) (by kernel_rfl) (fun _ _ _ h => h) ?_ (by with_reducible assumption) ?_
        rotate_left 1
        focus (refine Or.inl ⟨by rfl, ?_⟩; intro wq hSw; go_simp; try with_reducible rfl)
        try simp only [Act.put, List.setIfInBounds_toArray, List.set_cons_zero, List.set_cons_succ]
        refine wpAnyH_ready (rs := [9]) (by kernel_rfl) (by simp) ?_
        refine AllReadyH.cons rfl (fun KS hKS => ?_) AllReadyH.nil
        go_simp
        obtain ⟨w4, hw4⟩ : ∃ V, V = ((((((((w3.setCell ⟨g, j * 9, none⟩ (.int .i64 i)).setCell ⟨g, j * 9 + 1, none⟩ (.int .i64 d)).setCell ⟨g, j * 9 + 2, none⟩ (.int .i64 c)).setCell ⟨g, j * 9 + 3, none⟩ (.string bd)).setCell ⟨g, j * 9 + 4, none⟩ (.int .i64 at_)).setCell ⟨g, j * 9 + 5, none⟩ (.int .i64 t)).setCell ⟨g, j * 9 + 6, none⟩ (.int .i64 r)).setCell ⟨g, j * 9 + 7, none⟩ (.int .i64 n)).setCell ⟨g, j * 9 + 8, none⟩ (.int .i64 (Evt.bk s)) := ⟨_, rfl⟩
        rw [← hw4] at hst ⊢
        rw [HS.out] at hst
        have hat : (evR (.slice (some ⟨g, 0, none⟩) E.length ec) (mapJ ids E j)).At B w3 := HO.out.rows.at_ _ (by simp [gRows])
        have hne3 : some kt ≠ some g := fun e => by injection e; have := HTG.out; omega
        replace HX := Lib.hid (HX.out.grown hst.2 (hat.ne_box rfl HX.out hT))
        replace HI := Lib.hid (inR_kept HI.out hat ne_ei hst.2)
        replace HC := Lib.hid (HC.out.grown hst.2 hne3)
        replace HL := Lib.hid (HL.out.grown hst.2 HBW.out (fun q e => by cases e; exact hg1))
        replace HK4 := Lib.hid (HK4.out.trans (Keep4.row hat rfl hst.2))
        replace HBW := Lib.hid (Nat.le_trans HBW.out hst.2.size)
        replace HO := Lib.hid (HO.out.setEv hst.2 hst.1 (.inl rfl) (body_mapJ HBY.out))
        clear hst hev d0 d1 d2 d3 d4 d5 d6 d7 d8 f0 f1 f2 f3 f4 f5 f6 f7 f8 hne3 hHeld hw4 hat
        refine hKS.out _ _ (⟨HX.out.cell 13 _ rfl, HC.out⟩) (fun hHeld => ?_)
        clear hKS
        try simp only [Act.put, List.setIfInBounds_toArray, List.set_cons_zero, List.set_cons_succ]
        refine wpAnyH_done (by kernel_rfl) ?_ _
        clear hHeld
        go_wp2_with fail
        go_roundw
        case rel => exact ⟨j + 1, by omega, by go_num, HX, HO, HI, HL, HK4, HBW⟩
        case measure => simp [intOf]; omega

    · obtain rfl : j = E.length := by omega
      have HQ := Lib.hid (show GOwn B wr (.slice ea E.length ec) (.slice ka K.length kc) (.slice fa F.length fc) (.slice ra R.length rc) vs (mapB ids E) K F R by have h1 := HO.out; rw [mapJ_all] at h1; exact h1)
      clear HO hj hlt
      go_wp2_with fail
      exact bodyPost_end (v := .tuple #[]) (by simp [results, Tryd.results58]) rfl ⟨rfl, HX.out, HQ.out, HL.out, HK4.out⟩

end Go.Proofs.YtkndpkingmemoaaDoor.Gat
namespace Go.Proofs.YtkndpkingmemoaaDoor.Lnk
open Go.RowKit
set_option linter.unusedVariables false

/-- a cell of an int -/
structure Bi (w : World) (b : Nat) (s : Int) : Prop where
  c : w.cell? ⟨b, 0, none⟩ = some (.int .i64 s)
  lt : b < w.heap.size
theorem Bi.below {w w' : World} {b : Nat} {s : Int} (h : Bi w b s) (hb : Below w.heap.size w w') : Bi w' b s := ⟨(hb.cell (p := ⟨b, 0, none⟩) h.lt).trans h.c, Nat.lt_of_lt_of_le h.lt hb.size⟩
theorem Fr2.three (w : World) (up : Bool) (ep sq s : Int) (a : Option Addr) (len cap : Nat) (l : List Y) (h : YIs w.heap.size w a len l) (t1 t2 t3 : TypeId) :
    Fr2 w (((w.alloc (.cells #[.bool up, .int .i64 ep, .int .i64 sq, .slice a len cap] t1)).alloc (.cells #[.int .i64 s] t3)).alloc (.cells #[.bool false, .int .i64 0, .int .i64 0, .slice none 0 0] t2)) (w.heap.size + 1 + 1) up ep sq a len cap l ∧
      Bi (((w.alloc (.cells #[.bool up, .int .i64 ep, .int .i64 sq, .slice a len cap] t1)).alloc (.cells #[.int .i64 s] t3)).alloc (.cells #[.bool false, .int .i64 0, .int .i64 0, .slice none 0 0] t2)) (w.heap.size + 1) s := by
  have hb1 := bOne w (.cells #[.bool up, .int .i64 ep, .int .i64 sq, .slice a len cap] t1)
  have hb2 := bOne (w.alloc (.cells #[.bool up, .int .i64 ep, .int .i64 sq, .slice a len cap] t1)) (.cells #[.int .i64 s] t3)
  have hb3 := bOne ((w.alloc (.cells #[.bool up, .int .i64 ep, .int .i64 sq, .slice a len cap] t1)).alloc (.cells #[.int .i64 s] t3)) (.cells #[.bool false, .int .i64 0, .int .i64 0, .slice none 0 0] t2)
  have hs1 : (w.alloc (.cells #[.bool up, .int .i64 ep, .int .i64 sq, .slice a len cap] t1)).heap.size = w.heap.size + 1 := by simp
  have hs2 : ((w.alloc (.cells #[.bool up, .int .i64 ep, .int .i64 sq, .slice a len cap] t1)).alloc (.cells #[.int .i64 s] t3)).heap.size = w.heap.size + 1 + 1 := by simp
  have hi : Bi ((w.alloc (.cells #[.bool up, .int .i64 ep, .int .i64 sq, .slice a len cap] t1)).alloc (.cells #[.int .i64 s] t3)) (w.heap.size + 1) s := by
    have : Bi ((w.alloc (.cells #[.bool up, .int .i64 ep, .int .i64 sq, .slice a len cap] t1)).alloc (.cells #[.int .i64 s] t3)) (w.alloc (.cells #[.bool up, .int .i64 ep, .int .i64 sq, .slice a len cap] t1)).heap.size s := ⟨cell_of_row _ _ 0 _ t3 (0, 0) (heap_alloc_new _ _), by simp⟩
    rwa [hs1] at this
  refine ⟨⟨bAfter (bAfter hb1 hb2 (by simp)) hb3 (by simp; omega), ((B4.new w _ _ _ _ t1).below hb2).below hb3, ?_, ((Fr.new w _ t1).low hb2 (by simp)).low hb3 (by simp; omega), ?_, ((h.below hb1).below (hb2.mono (by simp))).below (hb3.mono (by simp; omega)), by omega⟩, hi.below hb3⟩
  · have := B4.new ((w.alloc (.cells #[.bool up, .int .i64 ep, .int .i64 sq, .slice a len cap] t1)).alloc (.cells #[.int .i64 s] t3)) false 0 0 (.slice none 0 0) t2
    rwa [hs2] at this
  · have := Fr.new ((w.alloc (.cells #[.bool up, .int .i64 ep, .int .i64 sq, .slice a len cap] t1)).alloc (.cells #[.int .i64 s] t3)) #[.bool false, .int .i64 0, .int .i64 0, .slice none 0 0] t2
    rwa [hs2] at this

end Go.Proofs.YtkndpkingmemoaaDoor.Lnk
namespace Go.Proofs.YtkndpkingmemoaaDoor.Lnk
open Go.RowKit
set_option linter.unusedVariables false

set_option maxRecDepth 100000 in
set_option maxHeartbeats 1000000 in
theorem join_any (w : World) (a : Option Addr) (len cap : Nat) (up : Bool) (ep sq : Int) (l : List Y) (h : YIs w.heap.size w a len l) (hlen : len ≤ 1048576) :
    Calls Tryd.prog 35 #[.agg #[.bool up, .int .i64 ep, .int .i64 sq, .slice a len cap]] w fun e w' => LandEnd w w' (joU up ep sq l) (joE up ep sq l) (joS up ep sq l) (joL up ep sq l) (joI up ep sq l) e := by
  have hf := Fr2.two w up ep sq a len cap l h 44 44
  have HF := Lib.hid hf
  clear h hf
  go_enter Tryd.func35, Tryd.ntmps35
  go_wp2_with fail
  refine (linkOk_any _ a len cap up ep sq l HF.out.here).mono ?_
  rintro e w3 ⟨rfl, hb3⟩
  have HF3 := Lib.hid (HF.out.step hb3)
  clear hb3 HF
  obtain ⟨⟨c0, c1, c2, c3⟩, ⟨d0, d1, d2, d3⟩, ⟨f0, f1, f2, f3⟩, g3⟩ := HF3.out.cells
  by_cases hj : LOk up ep sq l ∧ ep ≠ 60000
  · have HJ := Lib.hid (show joiB up ep sq l = true by unfold joiB; rw [lokB_true hj.1]; simp [hj.2])
    rw [lokB_true hj.1]
    have hb1 : (ep == 60000) = false := by simpa using hj.2
    have hw : IntKind.i64.wrap (ep + 1) = ep + 1 := IntWalk.i64_in _ (by have := hj.1.e0; have := hj.1.e1; omega)
    have hl0 := HF3.out.b0.lt
    have hl1 := HF3.out.b1.lt
    clear hj
    go_wp2_with fail
    have HD := Lib.hid (show Below w3.heap.size w3 w3.drew from below_drew' (Below.refl _ _))
    go_region_with (go_at_call 55; refine (flyingIds_any _ a len cap l (HF3.out.here.here HD.out) (by omega)).mono ?_; rintro e w6 ⟨⟨a6, cap6, rfl, ho6⟩, hb6⟩; have HF6 := Lib.hid ((HF3.out.step HD.out).step hb6); have HO6 := Lib.hid ho6; clear hb6 ho6; obtain ⟨⟨c0, c1, c2, c3⟩, ⟨d0, d1, d2, d3⟩, ⟨f0, f1, f2, f3⟩, g3⟩ := HF6.out.cells)
    all_goals
      go_wp2_with fail
      have hE := fun x0 x1 x2 x3 => HF6.out.end_ (YOwn.nil w6.heap.size w6 86) HF6.out.b1.lt x0 x1 x2 x3
      have hE2 := fun x0 x1 x2 x3 => HF6.out.endI HO6.out HF3.out.b1.lt x0 x1 x2 x3
      refine bodyPost_ret (v := .tuple #[.agg #[.bool true, .int .i64 (ep + 1), .int .i64 0, .slice none 0 0], .slice a6 (idsL l).length cap6]) (by simp [results, Tryd.results35, go_sem, d0, d1, d2, d3]) rfl ?_
      unfold joU joE joS joL joI
      rw [HJ.out]
      exact ⟨⟨none, 0, a6, cap6, rfl, (hE _ _ _ _).1, hE2 _ _ _ _⟩, (hE _ _ _ _).2⟩
  · have HJ := Lib.hid (show joiB up ep sq l = false by
      unfold joiB
      by_cases h1 : LOk up ep sq l
      · have : ep = 60000 := Decidable.byContradiction (fun h => hj ⟨h1, h⟩)
        simp [this]
      · rw [lokB_false h1]; rfl)
    have hq : lokB up ep sq l = false ∨ (lokB up ep sq l = true ∧ (ep == 60000) = true) := by
      by_cases h1 : LOk up ep sq l
      · have : ep = 60000 := Decidable.byContradiction (fun h => hj ⟨h1, h⟩)
        exact .inr ⟨lokB_true h1, by simp [this]⟩
      · exact .inl (lokB_false h1)
    clear hj
    rcases hq with hq | ⟨hq, hb1⟩
    all_goals
      rw [hq]
      clear hq
      go_wp2_with fail
      refine (copyLink_any _ a len cap up ep sq l HF3.out.here hlen).mono ?_
      rintro e w4 ⟨⟨a1, cap1, rfl, ho4⟩, hb4⟩
      have HF4 := Lib.hid (HF3.out.step hb4)
      have HE := Lib.hid (fun x0 x1 x2 x3 => HF4.out.end_ ho4 HF3.out.b1.lt x0 x1 x2 x3)
      clear hb4 ho4 c0 c1 c2 c3 d0 d1 d2 d3 f0 f1 f2 f3 g3
      obtain ⟨⟨c0, c1, c2, c3⟩, ⟨d0, d1, d2, d3⟩, ⟨f0, f1, f2, f3⟩, g3⟩ := HF4.out.cells
      go_wp2_with fail
      refine bodyPost_ret (v := .tuple #[.agg #[.bool up, .int .i64 ep, .int .i64 sq, .slice a1 l.length cap1], .slice none 0 0]) (by simp [results, Tryd.results35, go_sem, d0, d1, d2, d3]) rfl ?_
      unfold joU joE joS joL joI
      rw [HJ.out]
      exact ⟨⟨a1, cap1, none, 0, rfl, (HE.out _ _ _ _).1, IOwn.nil _ _⟩, (HE.out _ _ _ _).2⟩

set_option maxRecDepth 100000 in
set_option maxHeartbeats 1000000 in
theorem leave_any (w : World) (a : Option Addr) (len cap : Nat) (up : Bool) (ep sq : Int) (l : List Y) (h : YIs w.heap.size w a len l) (hlen : len ≤ 1048576) :
    Calls Tryd.prog 36 #[.agg #[.bool up, .int .i64 ep, .int .i64 sq, .slice a len cap]] w fun e w' => LandEnd w w' (leU up ep sq l) ep sq (leL up ep sq l) (leI up ep sq l) e := by
  have hf := Fr2.two w up ep sq a len cap l h 44 44
  have HF := Lib.hid hf
  clear h hf
  go_enter Tryd.func36, Tryd.ntmps36
  go_wp2_with fail
  refine (linkOk_any _ a len cap up ep sq l HF.out.here).mono ?_
  rintro e w3 ⟨rfl, hb3⟩
  have HF3 := Lib.hid (HF.out.step hb3)
  clear hb3 HF
  obtain ⟨⟨c0, c1, c2, c3⟩, ⟨d0, d1, d2, d3⟩, ⟨f0, f1, f2, f3⟩, g3⟩ := HF3.out.cells
  cases hok : lokB up ep sq l with
  | true =>
    have HOK := Lib.hid hok
    have hl0 := HF3.out.b0.lt
    have hl1 := HF3.out.b1.lt
    clear hok
    go_wp2_with fail
    have HD := Lib.hid (show Below w3.heap.size w3 w3.drew from below_drew' (Below.refl _ _))
    go_region_with (go_at_call 55; refine (flyingIds_any _ a len cap l (HF3.out.here.here HD.out) (by omega)).mono ?_; rintro e w6 ⟨⟨a6, cap6, rfl, ho6⟩, hb6⟩; have HF6 := Lib.hid ((HF3.out.step HD.out).step hb6); have HO6 := Lib.hid ho6; clear hb6 ho6; obtain ⟨⟨c0, c1, c2, c3⟩, ⟨d0, d1, d2, d3⟩, ⟨f0, f1, f2, f3⟩, g3⟩ := HF6.out.cells)
    all_goals
      go_wp2_with fail
      have hE := fun x0 x1 x2 x3 => HF6.out.end_ (YOwn.nil w6.heap.size w6 86) HF6.out.b1.lt x0 x1 x2 x3
      have hE2 := fun x0 x1 x2 x3 => HF6.out.endI HO6.out HF3.out.b1.lt x0 x1 x2 x3
      refine bodyPost_ret (v := .tuple #[.agg #[.bool false, .int .i64 ep, .int .i64 sq, .slice none 0 0], .slice a6 (idsL l).length cap6]) (by simp [results, Tryd.results36, go_sem, d0, d1, d2, d3]) rfl ?_
      unfold leU leL leI
      rw [HOK.out]
      exact ⟨⟨none, 0, a6, cap6, rfl, (hE _ _ _ _).1, hE2 _ _ _ _⟩, (hE _ _ _ _).2⟩
  | false =>
    have HOK := Lib.hid hok
    clear hok
    go_wp2_with fail
    refine (copyLink_any _ a len cap up ep sq l HF3.out.here hlen).mono ?_
    rintro e w4 ⟨⟨a1, cap1, rfl, ho4⟩, hb4⟩
    have HF4 := Lib.hid (HF3.out.step hb4)
    have HE := Lib.hid (fun x0 x1 x2 x3 => HF4.out.end_ ho4 HF3.out.b1.lt x0 x1 x2 x3)
    clear hb4 ho4 c0 c1 c2 c3 d0 d1 d2 d3 f0 f1 f2 f3 g3
    obtain ⟨⟨c0, c1, c2, c3⟩, ⟨d0, d1, d2, d3⟩, ⟨f0, f1, f2, f3⟩, g3⟩ := HF4.out.cells
    go_wp2_with fail
    refine bodyPost_ret (v := .tuple #[.agg #[.bool up, .int .i64 ep, .int .i64 sq, .slice a1 l.length cap1], .slice none 0 0]) (by simp [results, Tryd.results36, go_sem, d0, d1, d2, d3]) rfl ?_
    unfold leU leL leI
    rw [HOK.out]
    exact ⟨⟨a1, cap1, none, 0, rfl, (HE.out _ _ _ _).1, IOwn.nil _ _⟩, (HE.out _ _ _ _).2⟩
end Go.Proofs.YtkndpkingmemoaaDoor.Lnk
namespace Go.Proofs.YtkndpkingmemoaaDoor.Gat
open Go.RowKit
open Lnk (bOne bAfter IOwn IIs YOwn YIs below_keep below_drew' bcell low_after low_alloc grown_of_below joU joE joS joL joI leU leL leI)
set_option linter.unusedVariables false
set_option linter.unusedSimpArgs false

section
variable {P : Program} {w : World} {k : Nat} {T : TypeId} {l rest : List Value}
/-- the first cells of a block, read as a struct -/
theorem run_load_pre (hb : Box w k T (l ++ rest)) (t : TypeId) (fs : Array Field) (hu : P.underlying t = some (.struct fs)) (hi : (P.info? t).map (·.size) = some l.length) : (loadVar t ⟨k, 0, none⟩).run P w = .ok (.agg l.toArray) w := by
  have hl : (loadCells ⟨k, 0, none⟩ l.length).run P w = .ok l.toArray w :=
    run_loadCells_list (P := P) w ⟨k, 0, none⟩ l (fun j v hv => by
      have hadd : (⟨k, 0, none⟩ : Addr).add j = ⟨k, j, none⟩ := by unfold Addr.add; split <;> simp_all
      rw [hadd]
      refine hb.cell j v ?_
      rw [List.getElem?_append_left (List.getElem?_eq_some_iff.1 hv).1]
      exact hv)
  cases hq : P.info? t with
  | none => simp [hq] at hi
  | some i =>
    have hs : i.size = l.length := by simpa [hq] using hi
    have hagg : (isAgg t).run P w = .ok true w := by
      unfold isAgg
      rw [Sem.run_bind, run_underlying hu w]
      rfl
    simp [loadVar, Sem.run_bind, hagg, sizeOf, typeInfo, hq, hs, hl]
theorem exec_load_pre {o : Oper} {ρ : Operand → Value} (p : Operand) (t : TypeId) (hop : o.op = .load t p) (hs : ρ p = .pointer (some ⟨k, 0, none⟩)) (hb : Box w k T (l ++ rest)) (fs : Array Field) (hu : P.underlying t = some (.struct fs)) (hi : (P.info? t).map (·.size) = some l.length) :
    (execOp ρ o).run P w = .ok (.value (.agg l.toArray)) w := by
  have hrun : (Instr.loadAt t (.pointer (some ⟨k, 0, none⟩))).run P w = .ok (.agg l.toArray) w := by
    simp only [Instr.loadAt, Instr.sureAddr, Sem.run_bind, Sem.run_pure, Result.andThen]
    exact run_load_pre hb t fs hu hi
  simp only [execOp, hop, hs, Sem.run_bind, Sem.run_pure, hrun, Result.andThen_ok]
theorem wpList_load_pre {ops : Array Oper} {rs : List Oper} {o : Oper} {a : Act} {Q : Exit → Act → World → Prop} (hg : o.guard = none) (p : Operand) (t : TypeId) (hop : o.op = .load t p) (hs : a.eval p = .pointer (some ⟨k, 0, none⟩)) (hb : Box w k T (l ++ rest)) (fs : Array Field) (hu : P.underlying t = some (.struct fs)) (hi : (P.info? t).map (·.size) = some l.length)
    (h : wpList P ops Q rs (a.put o.dst (.agg l.toArray)) w) : wpList P ops Q (o :: rs) a w := by
  refine wpList_plain hg fun K' hK' => ?_
  unfold Oper.wp
  rw [exec_load_pre (ρ := a.eval) p t hop hs hb fs hu hi]
  exact hK' _ _ h
end
theorem ne_li : (44 : TypeId) ≠ 3 := by decide
/-- a row of the gate's links in place of another one -/
theorem keep4_lk {B : Nat} {w w' : World} {v : Value} {l : List Lr} (h : ROwn lrS B w 44 v l) (hg : w.grownBy w' v.ownBlock) : Keep4 w w' := Keep4.row (r := lrR v l) h rfl hg
def relE (I : Lk → List Int) (ok : Bool) (K : List Lk) (E : List Ev) (d : Int) : List Ev := if ok then mapB (I (K.getD (d - 1).toNat lk0)) E else E
theorem relE_at {I : Lk → List Int} {K : List Lk} {E : List Ev} {d : Int} {m : Nat} {k : Lk} (hm : m < K.length) (hd : d = (m : Int) + 1) (hk : K[m] = k) : relE I true K E d = mapB (I k) E := by
  have e : (d - 1).toNat = m := by omega
  unfold relE
  rw [if_pos rfl, e, List.getD_eq_getElem?_getD, List.getElem?_eq_getElem hm, hk]
  rfl

set_option maxRecDepth 100000 in
set_option maxHeartbeats 8000000 in
theorem relink0_any (gf : Nat) (J : Lk → Lk) (I : Lk → List Int) (w : World) (B kb : Nat) (T : TypeId) (rest : List Value) (de qu wi ti qa bu le pb pc pj pt nw la : Int) (ea : Option Addr) (ec : Nat) (ka : Option Addr) (kc : Nat) (tu : Int) (fa : Option Addr) (fc : Nat) (ra : Option Addr) (rc : Nat) (tk ac dr : Int) (vs : List Value) (E : List Ev) (K : List Lk) (F R : List Int) (d : Int) (hx : Box w kb T ([.int .i64 de, .int .i64 qu, .int .i64 wi, .int .i64 ti, .int .i64 qa, .int .i64 bu, .int .i64 le, .int .i64 pb, .int .i64 pc, .int .i64 pj, .int .i64 pt, .int .i64 nw, .int .i64 la, .slice ea E.length ec, .slice ka K.length kc, .int .i64 tu, .slice fa F.length fc, .slice ra R.length rc, .int .i64 tk, .int .i64 ac, .int .i64 dr] ++ rest)) (hT : rowTy T = false) (h : GOwn B w (.slice ea E.length ec) (.slice ka K.length kc) (.slice fa F.length fc) (.slice ra R.length rc) vs E K F R) (hB : B ≤ w.heap.size) (hs : Small E.length K.length F.length R.length K) (hkd : (K.length : Int) = de) (hde : de ≤ 1000)
    (heg : ∀ (args : Array Value) (w1 : World), (callFunc gf args).run Tryd.prog w1 = .ok (.enter gf args) w1)
    (hI : ∀ k, (I k).length ≤ k.l.length)
    (hcall : ∀ (w1 : World) (k : Lk) (fa0 : Option Addr) (fl fc0 : Nat), Below w.heap.size w w1 → YIs w1.heap.size w1 fa0 fl k.l → k.l.length ≤ 1048576 → Calls Tryd.prog gf #[.agg #[.bool k.up, .int .i64 k.ep, .int .i64 k.sq, .slice fa0 fl fc0]] w1 fun e w2 => Lnk.LandEnd w1 w2 (J k).up (J k).ep (J k).sq (J k).l (I k) e) :
    Calls Tryd.prog 34 #[.pointer (some ⟨kb, 0, none⟩), .int .i64 d, .func (.func gf) #[] #[]] w fun e w' => e = .returned (.tuple #[]) ∧ Box w' kb T ([.int .i64 de, .int .i64 qu, .int .i64 wi, .int .i64 ti, .int .i64 qa, .int .i64 bu, .int .i64 le, .int .i64 pb, .int .i64 pc, .int .i64 pj, .int .i64 pt, .int .i64 nw, .int .i64 la, .slice ea E.length ec, .slice ka K.length kc, .int .i64 tu, .slice fa F.length fc, .slice ra R.length rc, .int .i64 tk, .int .i64 ac, .int .i64 dr] ++ rest) ∧ (∃ vs', GOwn B w' (.slice ea E.length ec) (.slice ka K.length kc) (.slice fa F.length fc) (.slice ra R.length rc) vs' (relE I (inB 1 de d) K E d) (conK J (inB 1 de d) K d) F R) ∧ Below B w w' ∧ Keep4 w w' := by
  cases hin : inB 1 de d with
  | false =>
    have HX := Lib.hid hx
    have HO := Lib.hid h
    have HIN := Lib.hid hin
    clear hx h hin heg hI hcall hkd
    go_enter Tryd.func34, Tryd.ntmps34
    go_wp2_with (first | (refine wpList_load_pre rfl _ 33 rfl rfl HX.out _ Tryd.underlying33 sizeGate ?_) | fail)
    refine (hasDev_any _ de qu wi ti qa bu le pb pc pj pt nw la ea E.length ec ka K.length kc tu fa F.length fc ra R.length rc tk ac dr d).mono ?_
    rintro e w1 ⟨rfl, hb⟩
    rw [HIN.out]
    replace HX := Lib.hid (HX.out.below hb)
    replace HO := Lib.hid (HO.out.below hb)
    have HL := Lib.hid hb
    clear hb
    go_wp2_with fail
    exact bodyPost_ret (v := .tuple #[]) (by simp [results, Tryd.results34]) rfl ⟨rfl, HX.out, ⟨vs, HO.out⟩, HL.out.mono hB, Keep4.below HL.out⟩
  | true =>
    have hd := inB_yes hin
    obtain ⟨m, hm⟩ : ∃ m : Nat, d = (m : Int) + 1 := ⟨(d - 1).toNat, by omega⟩
    have hmK : m < K.length := by omega
    have hmk : (m : Int) < (K.length : Int) := by omega
    have hwm : IntKind.i64.wrap (d - 1) = (m : Int) := by rw [hm, show (m : Int) + 1 - 1 = (m : Int) by omega]; exact IntWalk.i64_in _ (by omega)
    obtain ⟨gk, hka, hgk2⟩ := own_some h.lkO (by rw [rawOf_len h.len]; omega)
    subst hka
    have hgk1 : B ≤ gk := (World.ownsRow.lt h.lkO gk rfl).1
    have HX := Lib.hid hx
    have HO := Lib.hid h
    have HIN := Lib.hid hin
    have HM := Lib.hid hm
    have HMK := Lib.hid hmK
    have HS := Lib.hid hs
    have HII := Lib.hid hI
    have HC := Lib.hid hcall
    clear hx h hin hm hkd hs hI hcall hmK
    go_enter Tryd.func34, Tryd.ntmps34
    go_wp2_with (first | (refine wpList_load_pre rfl _ 33 rfl rfl HX.out _ Tryd.underlying33 sizeGate ?_) | fail)
    refine (hasDev_any _ de qu wi ti qa bu le pb pc pj pt nw la ea E.length ec (some ⟨gk, 0, none⟩) K.length kc tu fa F.length fc ra R.length rc tk ac dr d).mono ?_
    rintro e w1 ⟨rfl, hb⟩
    rw [HIN.out]
    replace HX := Lib.hid (HX.out.below hb)
    replace HO := Lib.hid (HO.out.below hb)
    have HL := Lib.hid hb
    have HBW := Lib.hid (Nat.le_trans hB hb.size)
    clear hb
    obtain ⟨kk, hkk⟩ : ∃ k, k = K[m]'HMK.out := ⟨_, rfl⟩
    have hmr : m < (rawOf K vs).length := by rw [rawOf_len HO.out.len]; exact HMK.out
    have hmv : m < vs.length := by rw [HO.out.len]; exact HMK.out
    have hfy := HO.out.fly m HMK.out hmv
    obtain ⟨fa0, fc0, hvm⟩ := hfy.shape
    rw [hvm, ← hkk] at hfy
    obtain ⟨fl, hfl⟩ : ∃ n, n = kk.l.length := ⟨_, rfl⟩
    rw [← hkk, ← hfl] at hvm
    rw [← hfl] at hfy
    have HFY := Lib.hid hfy
    obtain ⟨⟨up, ep, sq, v0, hrow, c0, c1, c2, c3⟩, f0, f1, f2, f3⟩ := lown_at HO.out.lkO m hmr
    rw [rawOf_get m hmr HMK.out hmv, ← hkk, hvm] at hrow
    simp only [Lr.mk.injEq] at hrow
    obtain ⟨rfl, rfl, rfl, rfl⟩ := hrow
    have HKK := Lib.hid hkk
    have HKB := Lib.hid (show kk.l.length ≤ 1048576 by rw [hkk]; exact HS.out.2.2.1 _ (List.getElem_mem _))
    have HMR := Lib.hid hmr
    clear hkk hfl hfy hvm hmr hmv f0 f1 f2 f3
    have c14 := HX.out.cell 14 _ rfl
    go_wp2_with fail
    clear c14 c0 c1 c2 c3 heg
    refine (HC.out w1 kk fa0 fl fc0 HL.out HFY.out.isN HKB.out).mono ?_
    rintro e w2 ⟨⟨a2, cap2, a3, cap3, rfl, hoy, hoi⟩, hb⟩
    obtain ⟨j2, hj2⟩ : ∃ j, j = J kk := ⟨_, rfl⟩
    obtain ⟨i2, hi2⟩ : ∃ i, i = I kk := ⟨_, rfl⟩
    rw [← hj2] at hoy ⊢
    rw [← hi2] at hoi ⊢
    have HIB := Lib.hid (show i2.length ≤ 1048576 by rw [hi2]; exact Nat.le_trans (HII.out kk) HKB.out)
    obtain ⟨n2, hn2⟩ : ∃ n, n = j2.l.length := ⟨_, rfl⟩
    rw [← hn2] at hoy ⊢
    have HJ2 := Lib.hid hj2
    have HI2 := Lib.hid hi2
    have HRW := Lib.hid (HO.out.rows.new (r := flR (.slice a2 n2 cap2) j2.l) hb hoy HBW.out)
    have HIO := Lib.hid (show (inR (.slice a3 i2.length cap3) i2).At w1.heap.size w2 from hoi)
    have hbx := hb
    clear hj2 hi2 hoy hoi hn2 HC HII HFY

    replace HX := Lib.hid (HX.out.below hb)
    replace HO := Lib.hid (HO.out.below hb)
    replace HL := Lib.hid (low_after HL.out hb)
    replace HBW := Lib.hid (Nat.le_trans HBW.out hb.size)
    clear hb hbx
    have HW2 := Lib.hid (show w.heap.size ≤ w2.heap.size from HL.out.size)
    go_upto_region 2 with fail
    have hb := bOne w2 (.cells #[.bool j2.up, .int .i64 j2.ep, .int .i64 j2.sq, .slice a2 n2 cap2] 44)
    have HT4 := Lib.hid (Box.new w2 [.bool j2.up, .int .i64 j2.ep, .int .i64 j2.sq, .slice a2 n2 cap2] 44)
    replace HX := Lib.hid (HX.out.below hb)
    replace HO := Lib.hid (HO.out.below hb)
    replace HL := Lib.hid (low_after HL.out hb)
    replace HBW := Lib.hid (Nat.le_trans HBW.out hb.size)
    replace HRW := Lib.hid (HRW.out.below hb)
    replace HIO := Lib.hid (inR_below HIO.out hb)
    clear hb
    obtain ⟨wk, hwk⟩ : ∃ V, V = w2.alloc (.cells #[.bool j2.up, .int .i64 j2.ep, .int .i64 j2.sq, .slice a2 n2 cap2] 44) := ⟨_, rfl⟩
    obtain ⟨kt, hkt⟩ : ∃ k, k = w2.heap.size := ⟨_, rfl⟩
    have HTG := Lib.hid (show gk < kt by rw [hkt]; exact Nat.lt_of_lt_of_le hgk2 HW2.out)
    rw [← hwk] at HX HO HL HBW HRW HIO HT4 ⊢
    rw [← hkt] at HT4 ⊢
    clear hwk hkt
    have hb := below_drew' (Below.refl wk.heap.size wk)
    replace HX := Lib.hid (HX.out.below hb)
    replace HO := Lib.hid (HO.out.below hb)
    replace HL := Lib.hid (low_after HL.out hb)
    replace HBW := Lib.hid (Nat.le_trans HBW.out hb.size)
    replace HRW := Lib.hid (HRW.out.below hb)
    replace HIO := Lib.hid (inR_below HIO.out hb)
    replace HT4 := Lib.hid (HT4.out.below hb)
    clear hb
    refine wp_region_held_drew (S := fun w' => w'.cell? ⟨kb, 14, none⟩ = some (.slice (some ⟨gk, 0, none⟩) K.length kc) ∧ w'.cell? ⟨kt, 0, none⟩ = some (.bool j2.up) ∧ w'.cell? ⟨kt, 1, none⟩ = some (.int .i64 j2.ep) ∧ w'.cell? ⟨kt, 2, none⟩ = some (.int .i64 j2.sq) ∧ w'.cell? ⟨kt, 3, none⟩ = some (.slice a2 n2 cap2)) (by kernel_rfl) ⟨HX.out.cell 14 _ rfl, HT4.out.cell 0 _ rfl, HT4.out.cell 1 _ rfl, HT4.out.cell 2 _ rfl, HT4.out.cell 3 _ rfl⟩ (fun hHeld => ?_)
    obtain ⟨wd, hwd⟩ : ∃ x, x = wk.drew := ⟨_, rfl⟩
    rw [← hwd] at HX HO HL HBW HRW HIO HT4 hHeld ⊢
    clear hwd
    refine wpAnyH_take (i := 0) (oi := { dst := some _, op := _, type := _, pos := _, after := _, guard := _ }) (v := ?_) rfl (by kernel_rfl) (by kernel_rfl) (by kernel_rfl) (fun _ _ _ h => h) ?_ (by with_reducible assumption) ?_
    rotate_left 1
    focus (refine Or.inl ⟨by rfl, ?_⟩; intro wq hSw; go_simp; try with_reducible rfl)
    try simp only [Act.put, List.setIfInBounds_toArray, List.set_cons_zero, List.set_cons_succ]
    refine wpAnyH_take (i := 1) (oi := { dst := some _, op := _, type := _, pos := _, after := _, guard := _ }) (v := ?_) rfl (by kernel_rfl) (by kernel_rfl) (by kernel_rfl) (fun _ _ _ h => h) ?_ (by with_reducible assumption) ?_
    rotate_left 1
    focus (refine Or.inl ⟨by rfl, ?_⟩; intro wq hSw; go_simp; try with_reducible rfl)
    try simp only [Act.put, List.setIfInBounds_toArray, List.set_cons_zero, List.set_cons_succ]
    refine wpAnyH_take (i := 2) (oi := { dst := some _, op := _, type := _, pos := _, after := _, guard := _ }) (v := ?_) rfl (by kernel_rfl) (by kernel_rfl) (by kernel_rfl) (fun _ _ _ h => h) ?_ (by with_reducible assumption) ?_
    rotate_left 1
    focus (refine Or.inl ⟨by rfl, ?_⟩; intro wq hSw; go_simp; try with_reducible rfl)
    try simp only [Act.put, List.setIfInBounds_toArray, List.set_cons_zero, List.set_cons_succ]
    refine wpAnyH_take (i := 3) (oi := { dst := some _, op := _, type := _, pos := _, after := _, guard := _ }) (v := ?_) rfl (by kernel_rfl) (by kernel_rfl) (by kernel_rfl) (fun _ _ _ h => h) ?_ (by with_reducible assumption) ?_
    rotate_left 1
    focus (refine Or.inl ⟨by rfl, ?_⟩; intro wq hSw; go_simp; try with_reducible rfl)
    try simp only [Act.put, List.setIfInBounds_toArray, List.set_cons_zero, List.set_cons_succ]
    refine wpAnyH_take (i := 4) (oi := { dst := some _, op := _, type := _, pos := _, after := _, guard := _ }) (v := ?_) rfl (by kernel_rfl) (by kernel_rfl) (by kernel_rfl) (fun _ _ _ h => h) ?_ (by with_reducible assumption) ?_
    rotate_left 1
    focus (refine Or.inl ⟨by rfl, ?_⟩; intro wq hSw; have q0 := hSw.1; go_simp; try with_reducible rfl)
    try simp only [Act.put, List.setIfInBounds_toArray, List.set_cons_zero, List.set_cons_succ]
    refine wpAnyH_take (i := 5) (oi := { dst := some _, op := _, type := _, pos := _, after := _, guard := _ }) (v := ?_) rfl (by kernel_rfl) (by kernel_rfl) (by kernel_rfl) (fun _ _ _ h => h) ?_ (by with_reducible assumption) ?_
    rotate_left 1
    focus (refine Or.inl ⟨by rfl, ?_⟩; intro wq hSw; go_simp; try with_reducible rfl)
    try simp only [Act.put, List.setIfInBounds_toArray, List.set_cons_zero, List.set_cons_succ]
    refine wpAnyH_take (i := 6) (oi := { dst := some _, op := _, type := _, pos := _, after := _, guard := _ }) (v := ?_) rfl (by kernel_rfl) (by kernel_rfl) (by kernel_rfl) (fun _ _ _ h => h) ?_ (by with_reducible assumption) ?_
    rotate_left 1
    focus (refine Or.inl ⟨by rfl, ?_⟩; intro wq hSw; go_simp; try with_reducible rfl)
    try simp only [Act.put, List.setIfInBounds_toArray, List.set_cons_zero, List.set_cons_succ]
    refine wpAnyH_take (i := 7) (oi := { dst := some _, op := _, type := _, pos := _, after := _, guard := _ }) (v := ?_) rfl (by kernel_rfl) (by kernel_rfl) (by kernel_rfl) (fun _ _ _ h => h) ?_ (by with_reducible assumption) ?_
    rotate_left 1
    focus (refine Or.inl ⟨by rfl, ?_⟩; intro wq hSw; have q1 := hSw.2.1; have q2 := hSw.2.2.1; have q3 := hSw.2.2.2.1; have q4 := hSw.2.2.2.2; go_simp; try with_reducible rfl)
    try simp only [Act.put, List.setIfInBounds_toArray, List.set_cons_zero, List.set_cons_succ]
    refine wpAnyH_take (i := 8) (oi := { dst := some _, op := _, type := _, pos := _, after := _, guard := _ }) (v := ?_) rfl (by kernel_rfl) (by kernel_rfl) (by kernel_rfl) (fun _ _ _ h => h) ?_ (by with_reducible assumption) ?_
    rotate_left 1
    focus (refine Or.inl ⟨by rfl, ?_⟩; intro wq hSw; go_simp; try with_reducible rfl)
    try simp only [Act.put, List.setIfInBounds_toArray, List.set_cons_zero, List.set_cons_succ]
    have hro : ROwn lrS B wd 44 (.slice (some ⟨gk, 0, none⟩) K.length kc) (rawOf K vs) := HO.out.lkO
    obtain ⟨⟨z0, z1, z2, z3, hzz, d0, d1, d2, d3⟩, f0, f1, f2, f3⟩ := lown_at hro m HMR.out
    have hst := lown_set hro m HMR.out j2.up j2.ep j2.sq (.slice a2 n2 cap2)
    refine wpAnyH_ready (rs := [9]) (by kernel_rfl) (by simp) ?_
    refine AllReadyH.cons rfl (fun KS hKS => ?_) AllReadyH.nil
    go_simp
    obtain ⟨w4, hw4⟩ : ∃ V, V = (((wd.setCell ⟨gk, m * 4, none⟩ (.bool j2.up)).setCell ⟨gk, m * 4 + 1, none⟩ (.int .i64 j2.ep)).setCell ⟨gk, m * 4 + 2, none⟩ (.int .i64 j2.sq)).setCell ⟨gk, m * 4 + 3, none⟩ (.slice a2 n2 cap2) := ⟨_, rfl⟩
    rw [← hw4] at hst ⊢
    have hne3 : some kt ≠ some gk := fun e => by injection e; have := HTG.out; omega
    have ho4 := GOwn.setLk (k := j2) m HO.out HRW.out hst.2 hst.1
    replace HX := Lib.hid (HX.out.grown hst.2 ((show (lrR (.slice (some ⟨gk, 0, none⟩) K.length kc) (rawOf K vs)).At B wd from hro).ne_box rfl HX.out hT))
    replace HT4 := Lib.hid (HT4.out.grown hst.2 hne3)
    replace HIO := Lib.hid (inR_kept (r := lrR (.slice (some ⟨gk, 0, none⟩) K.length kc) (rawOf K vs)) HIO.out hro ne_li hst.2)
    have HLB := Lib.hid ((HL.out.mono hB).grown hst.2 HBW.out (fun q e => by cases e; exact hgk1))
    have HK4 := Lib.hid ((Keep4.below HL.out).trans (keep4_lk hro hst.2))
    replace HBW := Lib.hid (Nat.le_trans HBW.out hst.2.size)
    replace HO := Lib.hid ho4
    clear hst hro hzz d0 d1 d2 d3 f0 f1 f2 f3 hne3 hHeld hw4 HRW HL ho4
    refine hKS.out _ _ (⟨HX.out.cell 14 _ rfl, HT4.out.cell 0 _ rfl, HT4.out.cell 1 _ rfl, HT4.out.cell 2 _ rfl, HT4.out.cell 3 _ rfl⟩) (fun hHeld => ?_)
    clear hKS
    try simp only [Act.put, List.setIfInBounds_toArray, List.set_cons_zero, List.set_cons_succ]
    refine wpAnyH_done (by kernel_rfl) ?_ _
    clear hHeld HT4
    have HC2 := Lib.hid (show (K.set m j2).length = K.length from List.length_set)
    go_wp2_with fail
    have hok : GOwn B w4 (.slice ea E.length ec) (.slice (some ⟨gk, 0, none⟩) (K.set m j2).length kc) (.slice fa F.length fc) (.slice ra R.length rc) (vs.set m (.slice a2 n2 cap2)) E (K.set m j2) F R := by rw [HC2.out]; exact HO.out
    have hx2 := HX.out
    rw [← HC2.out] at hx2
    refine (keepBack_any w4 B _ kb T rest de qu wi ti qa bu le pb pc pj pt nw la ea ec (some ⟨gk, 0, none⟩) kc tu fa fc ra rc tk ac dr _ E (K.set m j2) F R a3 cap3 i2 hx2 hT hok HBW.out HIO.out HS.out.1 HIB.out).mono ?_
    rintro e w5 ⟨rfl, hx5, ho5, hl5, hk5⟩
    rw [HC2.out] at hx5 ho5
    have HFX := Lib.hid hx5
    have HFO := Lib.hid (show ∃ vs', GOwn B w5 (.slice ea E.length ec) (.slice (some ⟨gk, 0, none⟩) K.length kc) (.slice fa F.length fc) (.slice ra R.length rc) vs' (relE I true K E d) (conK J true K d) F R from ⟨_, by rw [relE_at HMK.out HM.out HKK.out.symm, conK_at HMK.out HM.out HKK.out.symm, ← HJ2.out, ← HI2.out]; exact ho5⟩)
    have HFL := Lib.hid (HLB.out.trans hl5)
    have HFK := Lib.hid (HK4.out.trans hk5)
    clear hx5 ho5 hl5 hk5 hok hx2
    go_wp2_with fail
    exact bodyPost_end (v := .tuple #[]) (by simp [results, Tryd.results34]) rfl ⟨rfl, HFX.out, HFO.out, HFL.out, HFK.out⟩

end Go.Proofs.YtkndpkingmemoaaDoor.Gat
