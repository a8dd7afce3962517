/-
  Maps from ids to places: of the call's own, told by the list of their keys; the builtin clear.
  A map of places filled from a row of messages: the walk.
  EventAt: the walks, of the specification and of the program.
  The specification's l08Gone and l08Back: a message that goes, messages that are back.
  Small laws of this seat's own, over any program: an append of one element with its frame; a row of bytes read as a string.
-/
import Derived.Test.YtkndpkingmemoaaDoorMgc
import Derived.Test.YtkndpkingmemoaaDoorMga
import Derived.Maps.OwnSet
import Derived.WalkArith
import Derived.Test.YtkndpkingmemoaaDoorMgb
import Derived.Deep.DeepCutAuto
import Derived.Test.YtkndpkingmemoaaDoorMgd
import Derived.Shelf.Abstract
import Derived.WalkKit
import Derived.WalkSpells
import Derived.Laws.IdiomStrings
import Derived.OwnWalk
import Derived.Lib.UnsafeStr
import Derived.Lib.Hide
namespace Go.Proofs.YtkndpkingmemoaaDoor.Gat
open Go.RowKit Go.Maps
open Lnk (keyInt)
set_option linter.unusedVariables false

theorem zeroInt (w : World) : (zeroValue 3).run Tryd.prog w = .ok (.int .i64 0) w := by kernel_rfl
theorem keyOf_wf {y : Int} (h : (Lit.int .i64 y).wf = true) : keyOf Tryd.prog 3 (.int .i64 y) = some (.int .i64 y) := keyOf_int_mk Tryd.underlying3 h

theorem cleared {w : World} {b n : Nat} {D : DataW Unit} {T : TypeId} (h : w.ownsMap Tryd.prog 3 (plainElem (H := Unit) Tryd.prog 3) b n D) (ht : Tryd.prog.underlying T = some (.map 3 3)) (ty : TypeId) :
    ∃ w', (Builtin.clear_ #[T] ty #[.map (some b)]).run Tryd.prog w = .ok (.tuple #[]) w' ∧ w'.ownsMap Tryd.prog 3 (plainElem (H := Unit) Tryd.prog 3) b 0 (.map []) ∧ w.grownBy w' (some b) := by
  obtain ⟨es, clock, hb, F, hs, rfl⟩ := h
  have hlt := (Array.getElem?_eq_some_iff.1 hb).1
  refine ⟨{ w with heap := w.heap.setIfInBounds b (.map #[] clock) }, ?_, ⟨#[], clock, (MapKept.heap_set hb).1, ⟨by simp, MapKept.stamped_empty clock, by simp⟩, Nat.le_refl _, rfl⟩, ⟨rfl, rfl, rfl, by simp, fun k hk hne => (MapKept.heap_set hb).2 k (fun e => hne (by rw [e]))⟩⟩
  simp [Builtin.clear_, run_underlying ht, MapKept.run_getObj_map hb, MapKept.run_setObj_map _ hb, Result.andThen]
/-- 'clear(m)' at the operation -/
theorem wpList_clear_own {w : World} {ops : Array Oper} {rest : List Oper} {o : Oper} {a : Act} {Q : Exit → Act → World → Prop} {b n : Nat} {D : DataW Unit} (hg : o.guard = none) (m : Operand) (T : TypeId) (hop : o.op = Op.call { callee := Callee.builtin Builtin.clear, args := #[m], argTypes := #[T] })
    (ht : Tryd.prog.underlying T = some (.map 3 3)) (hm : a.eval m = .map (some b)) (hown : w.ownsMap Tryd.prog 3 (plainElem (H := Unit) Tryd.prog 3) b n D)
    (hK : ∀ w', w'.ownsMap Tryd.prog 3 (plainElem (H := Unit) Tryd.prog 3) b 0 (.map []) → w.grownBy w' (some b) → wpList Tryd.prog ops Q rest (a.put o.dst (.tuple #[])) w') : wpList Tryd.prog ops Q (o :: rest) a w := by
  refine wpList_plain hg fun K' hK' => ?_
  obtain ⟨w', hrun, r1, r2⟩ := cleared hown ht o.type
  unfold Oper.wp
  simp [execOp, hop, resolve, invoke, builtin, hm, hrun, Result.andThen]
  exact hK' _ _ (hK w' r1 r2)

/-- a map whose keys are just these -/
structure MapIs (w : World) (b n : Nat) (D : DataW Unit) (K : List Int) : Prop where
  own : w.ownsMap Tryd.prog 3 (plainElem (H := Unit) Tryd.prog 3) b n D
  keys : ∀ id : Int, Maps.has D (.int .i64 id) = decide (id ∈ K)
  size : Maps.size D = K.length
section
variable {w w' : World} {b n : Nat} {D : DataW Unit} {K : List Int}
theorem keyLit (id : Int) : WideAt.IsKeyLit (.int .i64 id) := trivial
theorem litNe {a c : Int} (h : a ≠ c) : (Lit.int .i64 a) ≠ .int .i64 c := fun e => h (by injection e)
theorem MapIs.kept {r : Option Nat} (h : MapIs w b n D K) (hg : w.grownBy w' r) (hne : some b ≠ r) : MapIs w' b n D K := ⟨h.own.kept hg hne, h.keys, h.size⟩
theorem MapIs.below (h : MapIs w b n D K) (hb : Below w.heap.size w w') : MapIs w' b n D K := h.kept (Lnk.grown_of_below hb none) (by simp)
theorem MapIs.mono {m : Nat} (h : MapIs w b n D K) (hm : n ≤ m) : MapIs w b m D K := ⟨h.own.mono hm, h.keys, h.size⟩
theorem MapIs.empty (h : w.ownsMap Tryd.prog 3 (plainElem (H := Unit) Tryd.prog 3) b 0 (.map [])) : MapIs w b 0 (.map []) [] := ⟨h, fun id => by simp [Maps.has], rfl⟩
theorem MapIs.put {d : DataW Unit} {k : Int} (h : MapIs w b n D K) (hk : k ∉ K) (ho : w'.ownsMap Tryd.prog 3 (plainElem (H := Unit) Tryd.prog 3) b (n + 1) (D.put (.int .i64 k) d)) : MapIs w' b (n + 1) (D.put (.int .i64 k) d) (K ++ [k]) := by
  have ht := h.own.tidy keyInt
  refine ⟨ho, fun id => ?_, ?_⟩
  · by_cases e : id = k
    · subst e
      rw [has_put_same ht.isMap (keyLit _)]
      simp
    · rw [has_put_other (litNe e), h.keys]
      simp [e]
  · rw [size_put ht, h.keys, decide_eq_false hk, h.size]
    simp
theorem MapIs.del {k : Int} (h : MapIs w b n D K) (hk : k ∈ K) (hn : K.Nodup) (ho : w'.ownsMap Tryd.prog 3 (plainElem (H := Unit) Tryd.prog 3) b n (D.del (.int .i64 k))) : MapIs w' b n (D.del (.int .i64 k)) (K.erase k) := by
  have ht := h.own.tidy keyInt
  refine ⟨ho, fun id => ?_, ?_⟩
  · by_cases e : id = k
    · subst e
      rw [has_del_same]
      symm
      exact decide_eq_false (fun hm => by rw [hn.mem_erase_iff] at hm; exact hm.1 rfl)
    · rw [has_del_other (litNe e), h.keys]
      exact decide_eq_decide.2 (by rw [hn.mem_erase_iff]; exact ⟨fun hm => ⟨e, hm⟩, fun hm => hm.2⟩)
  · have h1 := size_del (k := .int .i64 k) ht
    rw [h.keys, decide_eq_true hk, h.size] at h1
    have h2 := List.length_erase_of_mem hk
    have h3 := List.length_pos_of_mem hk
    simp at h1
    omega
end

/-- the ids of what is wanted, each once -/
def stepK (pr : Ev → Bool) (K : List Int) (e : Ev) : List Int := if e.i ∈ K then K else if pr e then K ++ [e.i] else K
def fillK (pr : Ev → Bool) (l : List Ev) : List Int := l.foldl (stepK pr) []
theorem fillK_snoc (pr : Ev → Bool) (l : List Ev) (j : Nat) (h : j < l.length) : fillK pr (l.take (j + 1)) = stepK pr (fillK pr (l.take j)) l[j] := by
  unfold fillK
  rw [List.take_succ_eq_append_getElem h, List.foldl_append]
  rfl
theorem fill_mem (pr : Ev → Bool) (id : Int) : ∀ (l : List Ev) (K : List Int), id ∈ l.foldl (stepK pr) K ↔ id ∈ K ∨ ∃ e ∈ l, pr e = true ∧ e.i = id
  | [], K => by simp
  | e :: l, K => by
    rw [List.foldl_cons, fill_mem pr id l]
    unfold stepK
    constructor
    · rintro (h | ⟨x, hx, h1, h2⟩)
      · split at h
        · exact .inl h
        · split at h
          · rename_i hp
            rcases List.mem_append.1 h with h | h
            · exact .inl h
            · exact .inr ⟨e, by simp, hp, by simpa using (List.mem_singleton.1 h).symm⟩
          · exact .inl h
      · exact .inr ⟨x, List.mem_cons_of_mem _ hx, h1, h2⟩
    · rintro (h | ⟨x, hx, h1, h2⟩)
      · left
        split
        · exact h
        · split
          · exact List.mem_append_left _ h
          · exact h
      · rcases List.mem_cons.1 hx with rfl | hx
        · left
          by_cases hm : x.i ∈ K
          · rw [if_pos hm, ← h2]
            exact hm
          · rw [if_neg hm, if_pos h1, ← h2]
            simp
        · exact .inr ⟨x, hx, h1, h2⟩
theorem fillK_mem (pr : Ev → Bool) (id : Int) (l : List Ev) : id ∈ fillK pr l ↔ ∃ e ∈ l, pr e = true ∧ e.i = id := by
  unfold fillK
  rw [fill_mem]
  simp
theorem fill_nodup (pr : Ev → Bool) : ∀ (l : List Ev) (K : List Int), K.Nodup → (l.foldl (stepK pr) K).Nodup
  | [], K, h => h
  | e :: l, K, h => by
    rw [List.foldl_cons]
    refine fill_nodup pr l _ ?_
    unfold stepK
    split
    · exact h
    · rename_i hm
      split
      · rw [List.nodup_append]
        exact ⟨h, by simp, fun a ha c hc => by rw [List.mem_singleton.1 hc]; exact fun e => hm (e ▸ ha)⟩
      · exact h
theorem fillK_nodup (pr : Ev → Bool) (l : List Ev) : (fillK pr l).Nodup := fill_nodup pr l [] List.nodup_nil
/-- the place of the first that is wanted with this id -/
def firstI (pr : Ev → Bool) (id : Int) (l : List Ev) : Nat := l.findIdx (fun e => pr e && e.i == id)
theorem firstI_stay (pr : Ev → Bool) (id : Int) (l : List Ev) (j : Nat) (h : j < l.length) (hm : id ∈ fillK pr (l.take j)) : firstI pr id (l.take (j + 1)) = firstI pr id (l.take j) := by
  unfold firstI
  obtain ⟨e, he, h1, h2⟩ := (fillK_mem pr id _).1 hm
  rw [List.take_succ_eq_append_getElem h, List.findIdx_append]
  rw [if_pos (List.findIdx_lt_length_of_exists ⟨e, he, by simp [h1, h2]⟩)]
theorem firstI_new (pr : Ev → Bool) (id : Int) (l : List Ev) (j : Nat) (h : j < l.length) (hm : id ∉ fillK pr (l.take j)) (hp : pr l[j] = true) (hi : l[j].i = id) : firstI pr id (l.take (j + 1)) = j := by
  unfold firstI
  have hno : ∀ e ∈ l.take j, ¬ (pr e && e.i == id) = true := fun e he h1 => hm ((fillK_mem pr id _).2 ⟨e, he, by simpa using h1⟩)
  rw [List.take_succ_eq_append_getElem h, List.findIdx_append]
  rw [List.findIdx_eq_length_of_false (fun e he => by simpa using hno e he)]
  simp [hp, hi]
  omega
end Go.Proofs.YtkndpkingmemoaaDoor.Gat
namespace Go.Proofs.YtkndpkingmemoaaDoor.Gat
open Go.RowKit Go.Maps
open Lnk (bOne bAfter keyInt grown_of_below)
set_option linter.unusedVariables false

set_option maxRecDepth 100000 in
set_option maxHeartbeats 2000000 in
theorem fill0_any (g : Nat) (pr : Ev → Bool) (w : World) (B b n0 : Nat) (D0 : DataW Unit) (a : Option Addr) (len cap : Nat) (E : List Ev) (hB : B ≤ b) (hBw : B ≤ w.heap.size) (hE : EIs B w a len E) (hwf : ∀ e ∈ E, (Lit.int .i64 e.i).wf = true) (hlen : len ≤ 2000000)
    (hm : w.ownsMap Tryd.prog 3 (plainElem (H := Unit) Tryd.prog 3) b n0 D0)
    (heg : ∀ (args : Array Value) (w1 : World), (callFunc g args).run Tryd.prog w1 = .ok (.enter g args) w1)
    (hcall : ∀ (w1 : World) (i d c : Int) (bd : ByteArray) (at_ t r n s : Int), w.grownBy w1 (some b) → Calls Tryd.prog g #[.agg #[.int .i64 i, .int .i64 d, .int .i64 c, .string bd, .int .i64 at_, .int .i64 t, .int .i64 r, .int .i64 n, .int .i64 s]] w1 fun e w2 => e = .returned (.bool (pr ⟨i, d, c, bd, at_, t, r, n, s⟩)) ∧ Below w1.heap.size w1 w2) :
    Calls Tryd.prog 39 #[.map (some b), .slice a len cap, .func (.func g) #[] #[]] w fun e w' => e = .returned (.tuple #[]) ∧ (∃ D, MapIs w' b len D (fillK pr E) ∧ ∀ id ∈ fillK pr E, D.atKey (.int .i64 id) (.lit (.int .i64 0)) = .lit (.int .i64 (firstI pr id E))) ∧ w.grownBy w' (some b) := by
  have HN := Lib.hid hE.row.hlen
  have HT := Lib.hid hE
  have HW := Lib.hid hwf
  have HC := Lib.hid hcall
  have HM := Lib.hid hm
  clear hE hwf hcall hm
  go_enter Tryd.func39, Tryd.ntmps39
  go_wp2_with (first | (refine wpList_clear_own rfl _ 70 rfl Tryd.underlying70 rfl HM.out ?_; intro w1 hown1 hg1) | fail)
  have HM1 := Lib.hid (MapIs.empty hown1)
  have HG1 := Lib.hid hg1
  clear hown1 hg1 HM
  go_loopw [13] (fun i wr => ∃ (j : Nat) (D : DataW Unit), j ≤ len ∧ i = .int .i64 j ∧ Hid (MapIs wr b j D (fillK pr (E.take j))) ∧ Hid (∀ id ∈ fillK pr (E.take j), D.atKey (.int .i64 id) (.lit (.int .i64 0)) = .lit (.int .i64 (firstI pr id (E.take j)))) ∧ Hid (w.grownBy wr (some b))) (fun i _ => len - (intOf i).toNat)
  case atStart => exact ⟨0, .map [], by omega, rfl, Lib.hid (by simpa [fillK] using HM1.out), Lib.hid (by simp [fillK]), HG1⟩
  case round =>
    obtain ⟨j, D, hj, rfl, HM, HV, HG⟩ := hrel
    by_cases hlt : (j : Int) < (len : Int)
    · have hjl : j < E.length := by have := HN.out; omega
      have hbw : Below B w wr := (Below.refl _ _).grown HG.out hBw (fun k e => by cases e; exact hB)
      obtain ⟨b', off, i, d, c, bd, at_, t, r, n, s, rfl, hb', hlj, hbd, x0, x1, x2, x3, x4, x5, x6, x7, x8⟩ := (HT.out.below hbw).at j hjl
      have HJ := Lib.hid hlj
      have hwi := HW.out E[j] (List.getElem_mem _)
      rw [hlj] at hwi
      have HWI := Lib.hid (show (Lit.int .i64 i).wf = true from hwi)
      have HS := Lib.hid (fillK_snoc pr E j hjl)
      clear hlj hbd hb' hbw hwi
      have HB1 := Lib.hid (bOne wr (.cells #[.int .i64 i, .int .i64 d, .int .i64 c, .string bd, .int .i64 at_, .int .i64 t, .int .i64 r, .int .i64 n, .int .i64 s] 55))
      have HE := Lib.hid (Evt.B9.new wr i d c bd at_ t r n s 55)
      have HM1 := Lib.hid (HM.out.below HB1.out)
      have HG1 := Lib.hid (HG.out.trans (grown_of_below HB1.out (some b)))
      have HH := Lib.hid (HM.out.keys i)
      by_cases hin : i ∈ fillK pr (E.take j)
      · have HIN := Lib.hid hin
        have hha : Maps.has D (.int .i64 i) = true := by rw [HH.out]; exact decide_eq_true hin
        clear hin
        go_wp2_with (first | (at_lookup; refine wpList_lookup_own_ok_int _ rfl _ _ 70 rfl 3 3 .i64 keyInt Tryd.underlying70 Tryd.underlying3 (zeroInt _) b j D rfl HM1.out.own _ (.int .i64 i) rfl (keyOf_wf HWI.out) ?_; intro c1 hat hwc; rw [hha]; clear hat hwc) | fail)
        go_roundw
        case rel =>
          have hs := HS.out
          rw [stepK, HJ.out, if_pos HIN.out] at hs
          refine ⟨j + 1, D, by omega, by go_num, Lib.hid (by rw [hs]; exact HM1.out.mono (by omega)), Lib.hid (fun id hid => ?_), HG1⟩
          rw [hs] at hid
          rw [firstI_stay pr id E j hjl hid]
          exact HV.out id hid
        case measure => simp [intOf]; omega
      · have HIN := Lib.hid hin
        have hha : Maps.has D (.int .i64 i) = false := by rw [HH.out]; exact decide_eq_false hin
        clear hin
        go_wp2_with (first | (at_lookup; refine wpList_lookup_own_ok_int _ rfl _ _ 70 rfl 3 3 .i64 keyInt Tryd.underlying70 Tryd.underlying3 (zeroInt _) b j D rfl HM1.out.own _ (.int .i64 i) rfl (keyOf_wf HWI.out) ?_; intro c1 hat hwc; rw [hha]; clear hat hwc) | fail)
        refine (HC.out _ i d c bd at_ t r n s HG1.out).mono ?_
        rintro e w2 ⟨rfl, hb2⟩
        have HM2 := Lib.hid (HM1.out.below hb2)
        have HG2 := Lib.hid (HG1.out.trans (grown_of_below hb2 (some b)))
        have HE2 := Lib.hid (HE.out.below hb2)
        clear hb2
        obtain ⟨y0, y1, y2, y3, y4, y5, y6, y7, y8, ylt⟩ := HE2.out
        cases hp : pr ⟨i, d, c, bd, at_, t, r, n, s⟩ with
        | false =>
          have HP := Lib.hid hp
          clear hp
          go_wp2_with fail
          go_roundw
          case rel =>
            have hs := HS.out
            rw [stepK, HJ.out, if_neg HIN.out, HP.out] at hs
            simp only [Bool.false_eq_true, if_false] at hs
            refine ⟨j + 1, D, by omega, by go_num, Lib.hid (by rw [hs]; exact HM2.out.mono (by omega)), Lib.hid (fun id hid => ?_), HG2⟩
            rw [hs] at hid
            rw [firstI_stay pr id E j hjl hid]
            exact HV.out id hid
          case measure => simp [intOf]; omega
        | true =>
          have HP := Lib.hid hp
          clear hp
          go_wp2_with (first | (at_mapUpdate; refine wpList_mapUpdate_own _ rfl _ _ _ 70 rfl 3 3 keyInt Tryd.underlying70 _ b j D rfl HM2.out.own (by unfold maxLen; omega) _ _ _ rfl rfl (keyOf_wf HWI.out) _ [] (plainElem_int Tryd.underlying3 (WalkArith.wf_i64 (by omega))) ?_; intro w3 hown3 hg3; have HO3 := Lib.hid hown3; have HG3 := Lib.hid hg3; clear hown3 hg3) | fail)
          go_roundw
          case rel =>
            have hs := HS.out
            rw [stepK, HJ.out, if_neg HIN.out, HP.out] at hs
            simp only [if_true] at hs
            have hit := HM2.out.own.tidy keyInt
            refine ⟨j + 1, _, by omega, by go_num, Lib.hid (by rw [hs]; exact HM2.out.put HIN.out HO3.out), Lib.hid (fun id hid => ?_), Lib.hid (HG2.out.trans HG3.out)⟩
            rw [hs] at hid
            by_cases e : id = i
            · subst e
              rw [atKey_put_same hit.isMap (keyLit _), firstI_new pr id E j hjl HIN.out (by rw [HJ.out]; exact HP.out) (by rw [HJ.out])]
            · have hid2 : id ∈ fillK pr (E.take j) := by
                rcases List.mem_append.1 hid with h | h
                · exact h
                · exact absurd (List.mem_singleton.1 h) e
              rw [atKey_put_other (litNe e), firstI_stay pr id E j hjl hid2]
              exact HV.out id hid2
          case measure => simp [intOf]; omega
    · have hjl : j = E.length := by have := HN.out; omega
      have hM := HM.out
      have hV := HV.out
      rw [hjl, List.take_length] at hM hV
      have HM' := Lib.hid (show MapIs wr b len D (fillK pr E) from hM.mono (by have := HN.out; omega))
      have HV' := Lib.hid hV
      clear hM hV hjl HM HV
      go_wp2_with fail
      exact bodyPost_end (v := .tuple #[]) (by simp [results, Tryd.results39]) rfl ⟨rfl, ⟨D, HM'.out, HV'.out⟩, HG.out⟩

set_option maxRecDepth 100000 in
set_option maxHeartbeats 2000000 in
theorem fill1_any (g : Nat) (P : Addr) (pr : Ev → Bool) (w : World) (B b n0 : Nat) (D0 : DataW Unit) (a : Option Addr) (len cap : Nat) (E : List Ev) (hB : B ≤ b) (hBw : B ≤ w.heap.size) (hE : EIs B w a len E) (hwf : ∀ e ∈ E, (Lit.int .i64 e.i).wf = true) (hlen : len ≤ 2000000)
    (hm : w.ownsMap Tryd.prog 3 (plainElem (H := Unit) Tryd.prog 3) b n0 D0)
    (heg : ∀ (args : Array Value) (w1 : World), (callFunc g args).run Tryd.prog w1 = .ok (.enter g args) w1)
    (hcall : ∀ (w1 : World) (i d c : Int) (bd : ByteArray) (at_ t r n s : Int), w.grownBy w1 (some b) → Calls Tryd.prog g #[.agg #[.int .i64 i, .int .i64 d, .int .i64 c, .string bd, .int .i64 at_, .int .i64 t, .int .i64 r, .int .i64 n, .int .i64 s], .pointer (some P)] w1 fun e w2 => e = .returned (.bool (pr ⟨i, d, c, bd, at_, t, r, n, s⟩)) ∧ Below w1.heap.size w1 w2) :
    Calls Tryd.prog 39 #[.map (some b), .slice a len cap, .func (.func g) #[] #[.pointer (some P)]] w fun e w' => e = .returned (.tuple #[]) ∧ (∃ D, MapIs w' b len D (fillK pr E) ∧ ∀ id ∈ fillK pr E, D.atKey (.int .i64 id) (.lit (.int .i64 0)) = .lit (.int .i64 (firstI pr id E))) ∧ w.grownBy w' (some b) := by
  have HN := Lib.hid hE.row.hlen
  have HT := Lib.hid hE
  have HW := Lib.hid hwf
  have HC := Lib.hid hcall
  have HM := Lib.hid hm
  clear hE hwf hcall hm
  go_enter Tryd.func39, Tryd.ntmps39
  go_wp2_with (first | (refine wpList_clear_own rfl _ 70 rfl Tryd.underlying70 rfl HM.out ?_; intro w1 hown1 hg1) | fail)
  have HM1 := Lib.hid (MapIs.empty hown1)
  have HG1 := Lib.hid hg1
  clear hown1 hg1 HM
  go_loopw [13] (fun i wr => ∃ (j : Nat) (D : DataW Unit), j ≤ len ∧ i = .int .i64 j ∧ Hid (MapIs wr b j D (fillK pr (E.take j))) ∧ Hid (∀ id ∈ fillK pr (E.take j), D.atKey (.int .i64 id) (.lit (.int .i64 0)) = .lit (.int .i64 (firstI pr id (E.take j)))) ∧ Hid (w.grownBy wr (some b))) (fun i _ => len - (intOf i).toNat)
  case atStart => exact ⟨0, .map [], by omega, rfl, Lib.hid (by simpa [fillK] using HM1.out), Lib.hid (by simp [fillK]), HG1⟩
  case round =>
    obtain ⟨j, D, hj, rfl, HM, HV, HG⟩ := hrel
    by_cases hlt : (j : Int) < (len : Int)
    · have hjl : j < E.length := by have := HN.out; omega
      have hbw : Below B w wr := (Below.refl _ _).grown HG.out hBw (fun k e => by cases e; exact hB)
      obtain ⟨b', off, i, d, c, bd, at_, t, r, n, s, rfl, hb', hlj, hbd, x0, x1, x2, x3, x4, x5, x6, x7, x8⟩ := (HT.out.below hbw).at j hjl
      have HJ := Lib.hid hlj
      have hwi := HW.out E[j] (List.getElem_mem _)
      rw [hlj] at hwi
      have HWI := Lib.hid (show (Lit.int .i64 i).wf = true from hwi)
      have HS := Lib.hid (fillK_snoc pr E j hjl)
      clear hlj hbd hb' hbw hwi
      have HB1 := Lib.hid (bOne wr (.cells #[.int .i64 i, .int .i64 d, .int .i64 c, .string bd, .int .i64 at_, .int .i64 t, .int .i64 r, .int .i64 n, .int .i64 s] 55))
      have HE := Lib.hid (Evt.B9.new wr i d c bd at_ t r n s 55)
      have HM1 := Lib.hid (HM.out.below HB1.out)
      have HG1 := Lib.hid (HG.out.trans (grown_of_below HB1.out (some b)))
      have HH := Lib.hid (HM.out.keys i)
      by_cases hin : i ∈ fillK pr (E.take j)
      · have HIN := Lib.hid hin
        have hha : Maps.has D (.int .i64 i) = true := by rw [HH.out]; exact decide_eq_true hin
        clear hin
        go_wp2_with (first | (at_lookup; refine wpList_lookup_own_ok_int _ rfl _ _ 70 rfl 3 3 .i64 keyInt Tryd.underlying70 Tryd.underlying3 (zeroInt _) b j D rfl HM1.out.own _ (.int .i64 i) rfl (keyOf_wf HWI.out) ?_; intro c1 hat hwc; rw [hha]; clear hat hwc) | fail)
        go_roundw
        case rel =>
          have hs := HS.out
          rw [stepK, HJ.out, if_pos HIN.out] at hs
          refine ⟨j + 1, D, by omega, by go_num, Lib.hid (by rw [hs]; exact HM1.out.mono (by omega)), Lib.hid (fun id hid => ?_), HG1⟩
          rw [hs] at hid
          rw [firstI_stay pr id E j hjl hid]
          exact HV.out id hid
        case measure => simp [intOf]; omega
      · have HIN := Lib.hid hin
        have hha : Maps.has D (.int .i64 i) = false := by rw [HH.out]; exact decide_eq_false hin
        clear hin
        go_wp2_with (first | (at_lookup; refine wpList_lookup_own_ok_int _ rfl _ _ 70 rfl 3 3 .i64 keyInt Tryd.underlying70 Tryd.underlying3 (zeroInt _) b j D rfl HM1.out.own _ (.int .i64 i) rfl (keyOf_wf HWI.out) ?_; intro c1 hat hwc; rw [hha]; clear hat hwc) | fail)
        refine (HC.out _ i d c bd at_ t r n s HG1.out).mono ?_
        rintro e w2 ⟨rfl, hb2⟩
        have HM2 := Lib.hid (HM1.out.below hb2)
        have HG2 := Lib.hid (HG1.out.trans (grown_of_below hb2 (some b)))
        have HE2 := Lib.hid (HE.out.below hb2)
        clear hb2
        obtain ⟨y0, y1, y2, y3, y4, y5, y6, y7, y8, ylt⟩ := HE2.out
        cases hp : pr ⟨i, d, c, bd, at_, t, r, n, s⟩ with
        | false =>
          have HP := Lib.hid hp
          clear hp
          go_wp2_with fail
          go_roundw
          case rel =>
            have hs := HS.out
            rw [stepK, HJ.out, if_neg HIN.out, HP.out] at hs
            simp only [Bool.false_eq_true, if_false] at hs
            refine ⟨j + 1, D, by omega, by go_num, Lib.hid (by rw [hs]; exact HM2.out.mono (by omega)), Lib.hid (fun id hid => ?_), HG2⟩
            rw [hs] at hid
            rw [firstI_stay pr id E j hjl hid]
            exact HV.out id hid
          case measure => simp [intOf]; omega
        | true =>
          have HP := Lib.hid hp
          clear hp
          go_wp2_with (first | (at_mapUpdate; refine wpList_mapUpdate_own _ rfl _ _ _ 70 rfl 3 3 keyInt Tryd.underlying70 _ b j D rfl HM2.out.own (by unfold maxLen; omega) _ _ _ rfl rfl (keyOf_wf HWI.out) _ [] (plainElem_int Tryd.underlying3 (WalkArith.wf_i64 (by omega))) ?_; intro w3 hown3 hg3; have HO3 := Lib.hid hown3; have HG3 := Lib.hid hg3; clear hown3 hg3) | fail)
          go_roundw
          case rel =>
            have hs := HS.out
            rw [stepK, HJ.out, if_neg HIN.out, HP.out] at hs
            simp only [if_true] at hs
            have hit := HM2.out.own.tidy keyInt
            refine ⟨j + 1, _, by omega, by go_num, Lib.hid (by rw [hs]; exact HM2.out.put HIN.out HO3.out), Lib.hid (fun id hid => ?_), Lib.hid (HG2.out.trans HG3.out)⟩
            rw [hs] at hid
            by_cases e : id = i
            · subst e
              rw [atKey_put_same hit.isMap (keyLit _), firstI_new pr id E j hjl HIN.out (by rw [HJ.out]; exact HP.out) (by rw [HJ.out])]
            · have hid2 : id ∈ fillK pr (E.take j) := by
                rcases List.mem_append.1 hid with h | h
                · exact h
                · exact absurd (List.mem_singleton.1 h) e
              rw [atKey_put_other (litNe e), firstI_stay pr id E j hjl hid2]
              exact HV.out id hid2
          case measure => simp [intOf]; omega
    · have hjl : j = E.length := by have := HN.out; omega
      have hM := HM.out
      have hV := HV.out
      rw [hjl, List.take_length] at hM hV
      have HM' := Lib.hid (show MapIs wr b len D (fillK pr E) from hM.mono (by have := HN.out; omega))
      have HV' := Lib.hid hV
      clear hM hV hjl HM HV
      go_wp2_with fail
      exact bodyPost_end (v := .tuple #[]) (by simp [results, Tryd.results39]) rfl ⟨rfl, ⟨D, HM'.out, HV'.out⟩, HG.out⟩

end Go.Proofs.YtkndpkingmemoaaDoor.Gat
namespace Go.Proofs.YtkndpkingmemoaaDoor.Gat
open Go.RowKit Go.Maps
open Lnk (bOne bAfter keyInt grown_of_below low_after)
set_option linter.unusedVariables false

def isI (id : Int) (e : Ev) : Bool := e.i == id
/-- the place of the first message of an id, or -1 -/
def atI (id : Int) (l : List Ev) : Int := if l.any (isI id) then (l.findIdx (isI id) : Int) else -1
theorem fill_at (id : Int) (l : List Ev) : (if id ∈ fillK (fun _ => true) l then (firstI (fun _ => true) id l : Int) else -1) = atI id l := by
  have h : id ∈ fillK (fun _ => true) l ↔ l.any (isI id) = true := by
    rw [fillK_mem, List.any_eq_true]
    exact ⟨fun ⟨e, he, _, h2⟩ => ⟨e, he, by simp [isI, h2]⟩, fun ⟨e, he, h2⟩ => ⟨e, he, rfl, by simpa [isI] using h2⟩⟩
  unfold atI
  by_cases hm : id ∈ fillK (fun _ => true) l
  · rw [if_pos hm, if_pos (h.1 hm)]
    rfl
  · rw [if_neg hm, if_neg (fun h' => hm (h.2 h'))]

theorem all_any (i d c : Int) (b : ByteArray) (a t r n s : Int) (w : World) :
    Calls Tryd.prog 40 #[.agg #[.int .i64 i, .int .i64 d, .int .i64 c, .string b, .int .i64 a, .int .i64 t, .int .i64 r, .int .i64 n, .int .i64 s]] w fun e w' => e = .returned (.bool true) ∧ Below w.heap.size w w' := by
  go_enter Tryd.func40, Tryd.ntmps40
  go_wp2
  go_ret
  exact ⟨rfl, bOne _ _⟩
theorem enters_all : ∀ (args : Array Value) (w1 : World), (callFunc 40 args).run Tryd.prog w1 = .ok (.enter 40 args) w1 := enters_of Tryd.func40 (by kernel_rfl) rfl

set_option maxRecDepth 100000 in
set_option maxHeartbeats 2000000 in
theorem implEventAt_any (w : World) (de qu wi ti qa bu le pb pc pj pt nw la : Int) (ea : Option Addr) (en ec : Nat) (ka : Option Addr) (kn kc : Nat) (tu : Int) (fa : Option Addr) (fn fc : Nat) (ra : Option Addr) (rn rc : Nat) (tk ac dr : Int) (E : List Ev) (K : List Lk) (F R : List Int) (x : Int) (hx : (Lit.int .i64 x).wf = true) (hE : ∀ e ∈ E, (Lit.int .i64 e.i).wf = true) (hen : en ≤ 1048576) (h : GIs w.heap.size w ea en ka kn fa fn ra rn E K F R) :
    Calls Tryd.prog 17 #[.agg #[.int .i64 de, .int .i64 qu, .int .i64 wi, .int .i64 ti, .int .i64 qa, .int .i64 bu, .int .i64 le, .int .i64 pb, .int .i64 pc, .int .i64 pj, .int .i64 pt, .int .i64 nw, .int .i64 la, .slice ea en ec, .slice ka kn kc, .int .i64 tu, .slice fa fn fc, .slice ra rn rc, .int .i64 tk, .int .i64 ac, .int .i64 dr], .int .i64 x] w fun e w' => e = .returned (.int .i64 (atI x E)) ∧ Below w.heap.size w w' := by
  have hmm := @run_makeMap Tryd.prog
  obtain ⟨W0, hW0⟩ : ∃ W, W = w.alloc (.cells #[.int .i64 de, .int .i64 qu, .int .i64 wi, .int .i64 ti, .int .i64 qa, .int .i64 bu, .int .i64 le, .int .i64 pb, .int .i64 pc, .int .i64 pj, .int .i64 pt, .int .i64 nw, .int .i64 la, .slice ea en ec, .slice ka kn kc, .int .i64 tu, .slice fa fn fc, .slice ra rn rc, .int .i64 tk, .int .i64 ac, .int .i64 dr] 33) := ⟨_, rfl⟩
  have HA : Hid (Box W0 w.heap.size 33 [.int .i64 de, .int .i64 qu, .int .i64 wi, .int .i64 ti, .int .i64 qa, .int .i64 bu, .int .i64 le, .int .i64 pb, .int .i64 pc, .int .i64 pj, .int .i64 pt, .int .i64 nw, .int .i64 la, .slice ea en ec, .slice ka kn kc, .int .i64 tu, .slice fa fn fc, .slice ra rn rc, .int .i64 tk, .int .i64 ac, .int .i64 dr]) := Lib.hid (by rw [hW0]; exact Box.new w [.int .i64 de, .int .i64 qu, .int .i64 wi, .int .i64 ti, .int .i64 qa, .int .i64 bu, .int .i64 le, .int .i64 pb, .int .i64 pc, .int .i64 pj, .int .i64 pt, .int .i64 nw, .int .i64 la, .slice ea en ec, .slice ka kn kc, .int .i64 tu, .slice fa fn fc, .slice ra rn rc, .int .i64 tk, .int .i64 ac, .int .i64 dr] 33)
  have HL : Hid (Below w.heap.size w W0) := Lib.hid (by rw [hW0]; exact bOne _ _)
  have HT := Lib.hid (h.below HL.out).ev
  have HX := Lib.hid hx
  have HEW := Lib.hid hE
  have HWE := Lib.hid hW0
  have HSZ := Lib.hid (show w.heap.size + 1 = W0.heap.size by rw [hW0]; simp)
  clear h hW0 hx hE
  have c13 := HA.out.cell 13 _ rfl
  go_enter Tryd.func17, Tryd.ntmps17
  go_upto_region 1 with fail
  rw [← HWE.out]
  clear HWE
  go_upto_region 2 with fail
  have HM0 := Lib.hid (World.ownsMap_made (H := Unit) W0 Tryd.prog 3 (plainElem (H := Unit) Tryd.prog 3))
  have HB1 := Lib.hid (bOne W0 (.map #[] 0))
  obtain ⟨b, hb⟩ : ∃ b, b = W0.heap.size := ⟨_, rfl⟩
  rw [← hb] at HM0 ⊢
  have HA1 := Lib.hid (HA.out.below HB1.out)
  have HT1 := Lib.hid (show EIs b (W0.alloc (.map #[] 0)) ea en E from (HT.out.below (HB1.out.mono (by have := HSZ.out; omega))).mono (by have := HSZ.out; omega))
  have HL1 := Lib.hid (low_after HL.out HB1.out)
  have HBS := Lib.hid (show b ≤ (W0.alloc (.map #[] 0)).heap.size by rw [hb]; simp)
  have HBW := Lib.hid (show w.heap.size < b by rw [hb]; have := HSZ.out; omega)
  clear hb c13 HA HL HT HSZ HB1
  obtain ⟨W1, hW1⟩ : ∃ W, W = W0.alloc (.map #[] 0) := ⟨_, rfl⟩
  rw [← hW1] at HM0 HA1 HT1 HL1 HBS ⊢
  clear hW1
  have c13 := HA1.out.cell 13 _ rfl
  go_wp2_with fail
  refine (fill0_any 40 (fun _ => true) W1 b b 0 _ ea en ec E (Nat.le_refl _) HBS.out HT1.out HEW.out (by omega) HM0.out enters_all (fun w1 i d c bd at_ t r n s hg => all_any i d c bd at_ t r n s w1)).mono ?_
  rintro e w2 ⟨rfl, ⟨D, hM, hV⟩, hg⟩
  have HM := Lib.hid hM
  have HL2 := Lib.hid (HL1.out.grown hg HL1.out.size (fun k e => by cases e; exact Nat.le_of_lt HBW.out))
  clear c13
  have HF := Lib.hid (fill_at x E)
  have HHH := Lib.hid (hM.keys x)
  by_cases hin : x ∈ fillK (fun _ => true) E
  · have hv := hV x hin
    have hha : Maps.has D (.int .i64 x) = true := by rw [HHH.out]; exact decide_eq_true hin
    have hf := HF.out
    rw [if_pos hin] at hf
    have HR := Lib.hid hf
    have HV := Lib.hid hv
    clear hM hV hg hin hv hf
    go_wp2_with (first | (at_lookup; refine wpList_lookup_own_ok_int _ rfl _ _ 70 rfl 3 3 .i64 keyInt Tryd.underlying70 Tryd.underlying3 (zeroInt _) b en D rfl HM.out.own _ (.int .i64 x) rfl (keyOf_wf HX.out) ?_; intro c1 hat hwc; rw [hha]; have HC := Lib.hid hat; clear hat hwc) | fail)
    go_ret
    have hc := HC.out
    rw [HV.out] at hc
    simp only [DataW.lit.injEq, Lit.int.injEq, true_and] at hc
    exact ⟨by rw [← HR.out, hc]; rfl, HL2.out⟩
  · have hha : Maps.has D (.int .i64 x) = false := by rw [HHH.out]; exact decide_eq_false hin
    have hf := HF.out
    rw [if_neg hin] at hf
    have HR := Lib.hid hf
    clear hM hV hg hin hf
    go_wp2_with (first | (at_lookup; refine wpList_lookup_own_ok_int _ rfl _ _ 70 rfl 3 3 .i64 keyInt Tryd.underlying70 Tryd.underlying3 (zeroInt _) b en D rfl HM.out.own _ (.int .i64 x) rfl (keyOf_wf HX.out) ?_; intro c1 hat hwc; rw [hha]; clear hat hwc) | fail)
    go_ret
    exact ⟨by rw [← HR.out]; rfl, HL2.out⟩

end Go.Proofs.YtkndpkingmemoaaDoor.Gat
namespace Go.Proofs.YtkndpkingmemoaaDoor.Gat
open Go.RowKit
open Lnk (bOne bAfter IOwn IIs YOwn YIs below_keep below_drew' bcell low_after low_alloc grown_of_below)
set_option linter.unusedVariables false
set_option linter.unusedSimpArgs false

theorem eown_cells {B : Nat} {w : World} {E : TypeId} {g n' cap : Nat} {l : List Ev} (h : ROwn evS B w E (.slice (some ⟨g, 0, none⟩) n' cap) l) (k : Nat) (hk : k < l.length) :
    C9 w g (k * 9) l[k].i l[k].d l[k].c l[k].b l[k].a l[k].t l[k].r l[k].n l[k].s :=
  ⟨h.cellAt k hk 0 _ rfl, h.cellAt k hk 1 _ rfl, h.cellAt k hk 2 _ rfl, h.cellAt k hk 3 _ rfl, h.cellAt k hk 4 _ rfl, h.cellAt k hk 5 _ rfl, h.cellAt k hk 6 _ rfl, h.cellAt k hk 7 _ rfl, h.cellAt k hk 8 _ rfl⟩
theorem eown_cellx {B : Nat} {w : World} {E : TypeId} {g n' cap : Nat} {l : List Ev} (h : ROwn evS B w E (.slice (some ⟨g, 0, none⟩) n' cap) l) (k : Nat) (hk : k < l.length) {i d c : Int} {bd : ByteArray} {at_ t r n s : Int} (hx : l[k] = ⟨i, d, c, bd, at_, t, r, n, s⟩) : C9 w g (k * 9) i d c bd at_ t r n s := by
  have h1 := eown_cells h k hk
  rw [hx] at h1
  exact h1
theorem iis_at {B : Nat} {w : World} {a : Option Addr} {n : Nat} {l : List Int} (h : IIs B w a n l) (k : Nat) (hk : k < l.length) : ∃ b off x, a = some ⟨b, off, none⟩ ∧ b < B ∧ l[k] = x ∧ w.cell? ⟨b, off + k, none⟩ = some (.int .i64 x) := by
  obtain ⟨b, off, e, hlt, h0⟩ := h.cell k hk
  exact ⟨b, off, _, e, hlt, rfl, h0⟩
/-- a message that is back -/
def bkE (e : Ev) : Ev := ⟨e.i, e.d, e.c, e.b, e.a, e.t, e.r, e.n, Evt.bk e.s⟩
def back1 (E : List Ev) (id : Int) : List Ev := E.set (E.findIdx (isI id)) (bkE (E.getD (E.findIdx (isI id)) ev0))
def backE (E : List Ev) (ids : List Int) : List Ev := ids.foldl back1 E
theorem back1_len (E : List Ev) (id : Int) : (back1 E id).length = E.length := by simp [back1]
theorem backE_len : ∀ (ids : List Int) (E : List Ev), (backE E ids).length = E.length
  | [], E => rfl
  | x :: ids, E => by
    show (backE (back1 E x) ids).length = _
    rw [backE_len ids, back1_len]
theorem at_range (id : Int) (E : List Ev) : (atI id E = -1 ∧ back1 E id = E) ∨ ∃ (k : Nat) (hk : k < E.length), atI id E = (k : Int) ∧ back1 E id = E.set k (bkE E[k]) := by
  unfold atI back1
  by_cases h : E.any (isI id) = true
  · rw [if_pos h]
    obtain ⟨x, hx, hp⟩ := List.any_eq_true.1 h
    have hk : E.findIdx (isI id) < E.length := List.findIdx_lt_length_of_exists ⟨x, hx, hp⟩
    exact .inr ⟨_, hk, rfl, by simp [List.getD_eq_getElem?_getD, List.getElem?_eq_getElem hk]⟩
  · rw [if_neg h]
    refine .inl ⟨rfl, List.set_eq_of_length_le ?_⟩
    rw [List.findIdx_eq_length_of_false fun x hx => by
      cases hq : isI id x with
      | false => rfl
      | true => exact absurd (List.any_eq_true.2 ⟨x, hx, hq⟩) h]
    exact Nat.le_refl _
theorem own_some {α : Type} {S : Shp α} {B : Nat} {w : World} {E : TypeId} {a : Option Addr} {n c : Nat} {l : List α} (h : ROwn S B w E (.slice a n c) l) (hl : 0 < l.length) : ∃ g, a = some ⟨g, 0, none⟩ ∧ g < w.heap.size := by
  rcases h.2 with ⟨e, h0⟩ | ⟨g, c', cur, e, hb, hg, _⟩
  · omega
  · simp only [Value.slice.injEq] at e
    exact ⟨g, e.1, (h.lt g (by rw [e.1]; rfl)).2⟩
end Go.Proofs.YtkndpkingmemoaaDoor.Gat
namespace Go.Proofs.YtkndpkingmemoaaDoor.Kit
open Go.RowKit
set_option linter.unusedVariables false

/-- 'append(s, u)' of one element of one cell, onto a slice that the call owns: the row grows by u; what lay below B stays. -/
theorem append_one {P : Program} {ops : Array Oper} {rest : List Oper} {o : Oper} {a : Act} {Q : Exit → Act → World → Prop} (hgd : o.guard = none) (s x : Operand) (t : TypeId)
    (ho : o.op = .call { callee := .builtin .append, args := #[s, x], argTypes := #[t, t] })
    (e : TypeId) (i : TypeInfo) (z : Value) (bytes : Nat) (ht : P.underlying t = some (.slice e)) (hi : P.info? e = some i) (hz : i.zero = some z)
    (hsize : i.size = 1) (hby : i.bytes = bytes) (hzs : z.cells.size = 1) (hb16 : bytes ≤ 16)
    {B : Nat} {w0 w : World} {v : Value} {n : Nat} {xs : List Value} {u : Value} (hs : a.eval s = v) (hown : w.ownsRow B e 1 v n xs)
    (hx : a.eval x = .slice (some ⟨w.heap.size, 0, none⟩) 1 1) (hu : u.oneCell' = true) (hn : n < 1000000000000) (hbel : Below B w0 w) (hB : B ≤ w0.heap.size)
    (h : ∀ v' w', w'.ownsRow B e 1 v' (n + 1) (xs ++ [u]) → Below B w0 w' → w.heap.size + 1 ≤ w'.heap.size → w.grownBy w' v.ownBlock → wpList P ops Q rest (a.put o.dst v') w') :
    wpList P ops Q (o :: rest) a (w.alloc (.cells #[u] e)) := by
  have hsz := hbel.size
  have h1 : (n + 1) * bytes ≤ (n + 1) * 16 := Nat.mul_le_mul_left _ hb16
  refine wpList_append_own _ hgd s x t ho B e i z 1 bytes ht hi hz hsize hby hzs (by decide) v n xs hs (hown.alloc _) ⟨w.heap.size, 0, none⟩ 1 1 [u] hx rfl (cell_one_new _ _ _) (by intro u' hu'; simp at hu'; subst hu'; exact hu) (by unfold maxLen; omega) (by omega) (by simp; omega) ?_
  intro v' w' h2 h3 _
  have hs3 := h3.size
  simp at hs3
  refine h v' w' h2 ?_ hs3 ?_
  · refine (hbel.alloc (by omega) _).grown h3 (by simp; omega) (fun k hk => ?_)
    exact (hown.lt k hk).1
  · exact ⟨h3.os, h3.tape, h3.output, by omega, fun k hk hne => (h3.block k (by simp; omega) hne).trans (Below.heap_alloc _ _ _ hk)⟩

end Go.Proofs.YtkndpkingmemoaaDoor.Kit
