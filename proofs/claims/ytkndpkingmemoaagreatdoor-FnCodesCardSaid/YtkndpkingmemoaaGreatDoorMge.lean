/-
  Maps from ids to places: of the call's own, told by the list of their keys; the builtin clear.
  A map of places filled from a row of messages: the walk.
  EventAt: the walks, of the specification and of the program.
  The specification's l08Gone and l08Back: a message that goes, messages that are back.
  Small laws of this seat's own, over any program: an append of one element with its frame; a row of bytes read as a string.
-/
import Derived.Test.YtkndpkingmemoaaGreatDoorMgc
import Derived.Test.YtkndpkingmemoaaGreatDoorMga
import Derived.Maps.OwnSet
import Derived.WalkArith
import Derived.Test.YtkndpkingmemoaaGreatDoorMgb
import Derived.Deep.DeepCutAuto
import Derived.Test.YtkndpkingmemoaaGreatDoorMgd
import Derived.Shelf.Abstract
import Derived.WalkKit
import Derived.WalkSpells
import Derived.Laws.IdiomStrings
import Derived.OwnWalk
import Derived.Lib.UnsafeStr
import Derived.Lib.Hide
namespace Go.Proofs.YtkndpkingmemoaaGreatDoor.Gat
open Go.RowKit Go.Maps
open Lnk (keyInt)
set_option linter.unusedVariables false

theorem zeroInt (w : World) : (zeroValue 3).run Tryz.prog w = .ok (.int .i64 0) w := by kernel_rfl
theorem keyOf_wf {y : Int} (h : (Lit.int .i64 y).wf = true) : keyOf Tryz.prog 3 (.int .i64 y) = some (.int .i64 y) := keyOf_int_mk Tryz.underlying3 h

theorem cleared {w : World} {b n : Nat} {D : DataW Unit} {T : TypeId} (h : w.ownsMap Tryz.prog 3 (plainElem (H := Unit) Tryz.prog 3) b n D) (ht : Tryz.prog.underlying T = some (.map 3 3)) (ty : TypeId) :
    ∃ w', (Builtin.clear_ #[T] ty #[.map (some b)]).run Tryz.prog w = .ok (.tuple #[]) w' ∧ w'.ownsMap Tryz.prog 3 (plainElem (H := Unit) Tryz.prog 3) b 0 (.map []) ∧ w.grownBy w' (some b) := by
  obtain ⟨es, clock, hb, F, hs, rfl⟩ := h
  have hlt := (Array.getElem?_eq_some_iff.1 hb).1
  refine ⟨{ w with heap := w.heap.setIfInBounds b (.map #[] clock) }, ?_, ⟨#[], clock, (MapKept.heap_set hb).1, ⟨by simp, MapKept.stamped_empty clock, by simp⟩, Nat.le_refl _, rfl⟩, ⟨rfl, rfl, rfl, by simp, fun k hk hne => (MapKept.heap_set hb).2 k (fun e => hne (by rw [e]))⟩⟩
  simp [Builtin.clear_, run_underlying ht, MapKept.run_getObj_map hb, MapKept.run_setObj_map _ hb, Result.andThen]
/-- 'clear(m)' at the operation -/
theorem wpList_clear_own {w : World} {ops : Array Oper} {rest : List Oper} {o : Oper} {a : Act} {Q : Exit → Act → World → Prop} {b n : Nat} {D : DataW Unit} (hg : o.guard = none) (m : Operand) (T : TypeId) (hop : o.op = Op.call { callee := Callee.builtin Builtin.clear, args := #[m], argTypes := #[T] })
    (ht : Tryz.prog.underlying T = some (.map 3 3)) (hm : a.eval m = .map (some b)) (hown : w.ownsMap Tryz.prog 3 (plainElem (H := Unit) Tryz.prog 3) b n D)
    (hK : ∀ w', w'.ownsMap Tryz.prog 3 (plainElem (H := Unit) Tryz.prog 3) b 0 (.map []) → w.grownBy w' (some b) → wpList Tryz.prog ops Q rest (a.put o.dst (.tuple #[])) w') : wpList Tryz.prog ops Q (o :: rest) a w := by
  refine wpList_plain hg fun K' hK' => ?_
  obtain ⟨w', hrun, r1, r2⟩ := cleared hown ht o.type
  unfold Oper.wp
  simp [execOp, hop, resolve, invoke, builtin, hm, hrun, Result.andThen]
  exact hK' _ _ (hK w' r1 r2)

/-- a map whose keys are just these -/
structure MapIs (w : World) (b n : Nat) (D : DataW Unit) (K : List Int) : Prop where
  own : w.ownsMap Tryz.prog 3 (plainElem (H := Unit) Tryz.prog 3) b n D
  keys : ∀ id : Int, Maps.has D (.int .i64 id) = decide (id ∈ K)
  size : Maps.size D = K.length
section
variable {w w' : World} {b n : Nat} {D : DataW Unit} {K : List Int}
theorem keyLit (id : Int) : WideAt.IsKeyLit (.int .i64 id) := trivial
theorem litNe {a c : Int} (h : a ≠ c) : (Lit.int .i64 a) ≠ .int .i64 c := fun e => h (by injection e)
theorem MapIs.kept {r : Option Nat} (h : MapIs w b n D K) (hg : w.grownBy w' r) (hne : some b ≠ r) : MapIs w' b n D K := ⟨h.own.kept hg hne, h.keys, h.size⟩
theorem MapIs.below (h : MapIs w b n D K) (hb : Below w.heap.size w w') : MapIs w' b n D K := h.kept (Lnk.grown_of_below hb none) (by simp)
theorem MapIs.mono {m : Nat} (h : MapIs w b n D K) (hm : n ≤ m) : MapIs w b m D K := ⟨h.own.mono hm, h.keys, h.size⟩
theorem MapIs.empty (h : w.ownsMap Tryz.prog 3 (plainElem (H := Unit) Tryz.prog 3) b 0 (.map [])) : MapIs w b 0 (.map []) [] := ⟨h, fun id => by simp [Maps.has], rfl⟩
theorem MapIs.put {d : DataW Unit} {k : Int} (h : MapIs w b n D K) (hk : k ∉ K) (ho : w'.ownsMap Tryz.prog 3 (plainElem (H := Unit) Tryz.prog 3) b (n + 1) (D.put (.int .i64 k) d)) : MapIs w' b (n + 1) (D.put (.int .i64 k) d) (K ++ [k]) := by
  have ht := h.own.tidy keyInt
  refine ⟨ho, fun id => ?_, ?_⟩
  · by_cases e : id = k
    · subst e
      rw [has_put_same ht.isMap (keyLit _)]
      simp
    · rw [has_put_other (litNe e), h.keys]
      simp [e]
  · rw [size_put ht, h.keys, decide_eq_false hk, h.size]
    simp
theorem MapIs.del {k : Int} (h : MapIs w b n D K) (hk : k ∈ K) (hn : K.Nodup) (ho : w'.ownsMap Tryz.prog 3 (plainElem (H := Unit) Tryz.prog 3) b n (D.del (.int .i64 k))) : MapIs w' b n (D.del (.int .i64 k)) (K.erase k) := by
  have ht := h.own.tidy keyInt
  refine ⟨ho, fun id => ?_, ?_⟩
  · by_cases e : id = k
    · subst e
      rw [has_del_same]
      symm
      exact decide_eq_false (fun hm => by rw [hn.mem_erase_iff] at hm; exact hm.1 rfl)
    · rw [has_del_other (litNe e), h.keys]
      exact decide_eq_decide.2 (by rw [hn.mem_erase_iff]; exact ⟨fun hm => ⟨e, hm⟩, fun hm => hm.2⟩)
  · have h1 := size_del (k := .int .i64 k) ht
    rw [h.keys, decide_eq_true hk, h.size] at h1
    have h2 := List.length_erase_of_mem hk
    have h3 := List.length_pos_of_mem hk
    simp at h1
    omega
end

/-- the ids of what is wanted, each once -/
def stepK (pr : Ev → Bool) (K : List Int) (e : Ev) : List Int := if e.i ∈ K then K else if pr e then K ++ [e.i] else K
def fillK (pr : Ev → Bool) (l : List Ev) : List Int := l.foldl (stepK pr) []
theorem fillK_snoc (pr : Ev → Bool) (l : List Ev) (j : Nat) (h : j < l.length) : fillK pr (l.take (j + 1)) = stepK pr (fillK pr (l.take j)) l[j] := by
  unfold fillK
  rw [List.take_succ_eq_append_getElem h, List.foldl_append]
  rfl
theorem fill_mem (pr : Ev → Bool) (id : Int) : ∀ (l : List Ev) (K : List Int), id ∈ l.foldl (stepK pr) K ↔ id ∈ K ∨ ∃ e ∈ l, pr e = true ∧ e.i = id
  | [], K => by simp
  | e :: l, K => by
    rw [List.foldl_cons, fill_mem pr id l]
    unfold stepK
    constructor
    · rintro (h | ⟨x, hx, h1, h2⟩)
      · split at h
        · exact .inl h
        · split at h
          · rename_i hp
            rcases List.mem_append.1 h with h | h
            · exact .inl h
            · exact .inr ⟨e, by simp, hp, by simpa using (List.mem_singleton.1 h).symm⟩
          · exact .inl h
      · exact .inr ⟨x, List.mem_cons_of_mem _ hx, h1, h2⟩
    · rintro (h | ⟨x, hx, h1, h2⟩)
      · left
        split
        · exact h
        · split
          · exact List.mem_append_left _ h
          · exact h
      · rcases List.mem_cons.1 hx with rfl | hx
        · left
          by_cases hm : x.i ∈ K
          · rw [if_pos hm, ← h2]
            exact hm
          · rw [if_neg hm, if_pos h1, ← h2]
            simp
        · exact .inr ⟨x, hx, h1, h2⟩
theorem fillK_mem (pr : Ev → Bool) (id : Int) (l : List Ev) : id ∈ fillK pr l ↔ ∃ e ∈ l, pr e = true ∧ e.i = id := by
  unfold fillK
  rw [fill_mem]
  simp
theorem fill_nodup (pr : Ev → Bool) : ∀ (l : List Ev) (K : List Int), K.Nodup → (l.foldl (stepK pr) K).Nodup
  | [], K, h => h
  | e :: l, K, h => by
    rw [List.foldl_cons]
    refine fill_nodup pr l _ ?_
    unfold stepK
    split
    · exact h
    · rename_i hm
      split
      · rw [List.nodup_append]
        exact ⟨h, by simp, fun a ha c hc => by rw [List.mem_singleton.1 hc]; exact fun e => hm (e ▸ ha)⟩
      · exact h
theorem fillK_nodup (pr : Ev → Bool) (l : List Ev) : (fillK pr l).Nodup := fill_nodup pr l [] List.nodup_nil
/-- the place of the first that is wanted with this id -/
def firstI (pr : Ev → Bool) (id : Int) (l : List Ev) : Nat := l.findIdx (fun e => pr e && e.i == id)
theorem firstI_stay (pr : Ev → Bool) (id : Int) (l : List Ev) (j : Nat) (h : j < l.length) (hm : id ∈ fillK pr (l.take j)) : firstI pr id (l.take (j + 1)) = firstI pr id (l.take j) := by
  unfold firstI
  obtain ⟨e, he, h1, h2⟩ := (fillK_mem pr id _).1 hm
  rw [List.take_succ_eq_append_getElem h, List.findIdx_append]
  rw [if_pos (List.findIdx_lt_length_of_exists ⟨e, he, by simp [h1, h2]⟩)]
theorem firstI_new (pr : Ev → Bool) (id : Int) (l : List Ev) (j : Nat) (h : j < l.length) (hm : id ∉ fillK pr (l.take j)) (hp : pr l[j] = true) (hi : l[j].i = id) : firstI pr id (l.take (j + 1)) = j := by
  unfold firstI
  have hno : ∀ e ∈ l.take j, ¬ (pr e && e.i == id) = true := fun e he h1 => hm ((fillK_mem pr id _).2 ⟨e, he, by simpa using h1⟩)
  rw [List.take_succ_eq_append_getElem h, List.findIdx_append]
  rw [List.findIdx_eq_length_of_false (fun e he => by simpa using hno e he)]
  simp [hp, hi]
  omega
end Go.Proofs.YtkndpkingmemoaaGreatDoor.Gat
namespace Go.Proofs.YtkndpkingmemoaaGreatDoor.Gat
open Go.RowKit Go.Maps
open Lnk (bOne bAfter keyInt grown_of_below)
set_option linter.unusedVariables false

set_option maxRecDepth 100000 in
set_option maxHeartbeats 2000000 in
theorem fill0_any (g : Nat) (pr : Ev → Bool) (w : World) (B b n0 : Nat) (D0 : DataW Unit) (a : Option Addr) (len cap : Nat) (E : List Ev) (hB : B ≤ b) (hBw : B ≤ w.heap.size) (hE : EIs B w a len E) (hwf : ∀ e ∈ E, (Lit.int .i64 e.i).wf = true) (hlen : len ≤ 2000000)
    (hm : w.ownsMap Tryz.prog 3 (plainElem (H := Unit) Tryz.prog 3) b n0 D0)
    (heg : ∀ (args : Array Value) (w1 : World), (callFunc g args).run Tryz.prog w1 = .ok (.enter g args) w1)
    (hcall : ∀ (w1 : World) (i d c : Int) (bd : ByteArray) (at_ t r n s : Int), w.grownBy w1 (some b) → Calls Tryz.prog g #[.agg #[.int .i64 i, .int .i64 d, .int .i64 c, .string bd, .int .i64 at_, .int .i64 t, .int .i64 r, .int .i64 n, .int .i64 s]] w1 fun e w2 => e = .returned (.bool (pr ⟨i, d, c, bd, at_, t, r, n, s⟩)) ∧ Below w1.heap.size w1 w2) :
    Calls Tryz.prog 61 #[.map (some b), .slice a len cap, .func (.func g) #[] #[]] w fun e w' => e = .returned (.tuple #[]) ∧ (∃ D, MapIs w' b len D (fillK pr E) ∧ ∀ id ∈ fillK pr E, D.atKey (.int .i64 id) (.lit (.int .i64 0)) = .lit (.int .i64 (firstI pr id E))) ∧ w.grownBy w' (some b) := by
  have HN := Lib.hid hE.row.hlen
  have HT := Lib.hid hE
  have HW := Lib.hid hwf
  have HC := Lib.hid hcall
  have HM := Lib.hid hm
  clear hE hwf hcall hm
  go_enter Tryz.func61, Tryz.ntmps61
  go_wp2_with (first | (refine wpList_clear_own rfl _ 103 rfl Tryz.underlying103 rfl HM.out ?_; intro w1 hown1 hg1) | fail)
  have HM1 := Lib.hid (MapIs.empty hown1)
  have HG1 := Lib.hid hg1
  clear hown1 hg1 HM
  go_loopw [13] (fun i wr => ∃ (j : Nat) (D : DataW Unit), j ≤ len ∧ i = .int .i64 j ∧ Hid (MapIs wr b j D (fillK pr (E.take j))) ∧ Hid (∀ id ∈ fillK pr (E.take j), D.atKey (.int .i64 id) (.lit (.int .i64 0)) = .lit (.int .i64 (firstI pr id (E.take j)))) ∧ Hid (w.grownBy wr (some b))) (fun i _ => len - (intOf i).toNat)
  case atStart => exact ⟨0, .map [], by omega, rfl, Lib.hid (by simpa [fillK] using HM1.out), Lib.hid (by simp [fillK]), HG1⟩
  case round =>
    obtain ⟨j, D, hj, rfl, HM, HV, HG⟩ := hrel
    by_cases hlt : (j : Int) < (len : Int)
    · have hjl : j < E.length := by have := HN.out; omega
      have hbw : Below B w wr := (Below.refl _ _).grown HG.out hBw (fun k e => by cases e; exact hB)
      obtain ⟨b', off, i, d, c, bd, at_, t, r, n, s, rfl, hb', hlj, hbd, x0, x1, x2, x3, x4, x5, x6, x7, x8⟩ := (HT.out.below hbw).at j hjl
      have HJ := Lib.hid hlj
      have hwi := HW.out E[j] (List.getElem_mem _)
      rw [hlj] at hwi
      have HWI := Lib.hid (show (Lit.int .i64 i).wf = true from hwi)
      have HS := Lib.hid (fillK_snoc pr E j hjl)
      clear hlj hbd hb' hbw hwi
      have HB1 := Lib.hid (bOne wr (.cells #[.int .i64 i, .int .i64 d, .int .i64 c, .string bd, .int .i64 at_, .int .i64 t, .int .i64 r, .int .i64 n, .int .i64 s] 39))
      have HE := Lib.hid (Evt.B9.new wr i d c bd at_ t r n s 39)
      have HM1 := Lib.hid (HM.out.below HB1.out)
      have HG1 := Lib.hid (HG.out.trans (grown_of_below HB1.out (some b)))
      have HH := Lib.hid (HM.out.keys i)
      by_cases hin : i ∈ fillK pr (E.take j)
      · have HIN := Lib.hid hin
        have hha : Maps.has D (.int .i64 i) = true := by rw [HH.out]; exact decide_eq_true hin
        clear hin
        go_wp2_with (first | (at_lookup; refine wpList_lookup_own_ok_int _ rfl _ _ 103 rfl 3 3 .i64 keyInt Tryz.underlying103 Tryz.underlying3 (zeroInt _) b j D rfl HM1.out.own _ (.int .i64 i) rfl (keyOf_wf HWI.out) ?_; intro c1 hat hwc; rw [hha]; clear hat hwc) | fail)
        go_roundw
        case rel =>
          have hs := HS.out
          rw [stepK, HJ.out, if_pos HIN.out] at hs
          refine ⟨j + 1, D, by omega, by go_num, Lib.hid (by rw [hs]; exact HM1.out.mono (by omega)), Lib.hid (fun id hid => ?_), HG1⟩
          rw [hs] at hid
          rw [firstI_stay pr id E j hjl hid]
          exact HV.out id hid
        case measure => simp [intOf]; omega
      · have HIN := Lib.hid hin
        have hha : Maps.has D (.int .i64 i) = false := by rw [HH.out]; exact decide_eq_false hin
        clear hin
        go_wp2_with (first | (at_lookup; refine wpList_lookup_own_ok_int _ rfl _ _ 103 rfl 3 3 .i64 keyInt Tryz.underlying103 Tryz.underlying3 (zeroInt _) b j D rfl HM1.out.own _ (.int .i64 i) rfl (keyOf_wf HWI.out) ?_; intro c1 hat hwc; rw [hha]; clear hat hwc) | fail)
        refine (HC.out _ i d c bd at_ t r n s HG1.out).mono ?_
        rintro e w2 ⟨rfl, hb2⟩
        have HM2 := Lib.hid (HM1.out.below hb2)
        have HG2 := Lib.hid (HG1.out.trans (grown_of_below hb2 (some b)))
        have HE2 := Lib.hid (HE.out.below hb2)
        clear hb2
        obtain ⟨y0, y1, y2, y3, y4, y5, y6, y7, y8, ylt⟩ := HE2.out
        cases hp : pr ⟨i, d, c, bd, at_, t, r, n, s⟩ with
        | false =>
          have HP := Lib.hid hp
          clear hp
          go_wp2_with fail
          go_roundw
          case rel =>
            have hs := HS.out
            rw [stepK, HJ.out, if_neg HIN.out, HP.out] at hs
            simp only [Bool.false_eq_true, if_false] at hs
            refine ⟨j + 1, D, by omega, by go_num, Lib.hid (by rw [hs]; exact HM2.out.mono (by omega)), Lib.hid (fun id hid => ?_), HG2⟩
            rw [hs] at hid
            rw [firstI_stay pr id E j hjl hid]
            exact HV.out id hid
          case measure => simp [intOf]; omega
        | true =>
          have HP := Lib.hid hp
          clear hp
          go_wp2_with (first | (at_mapUpdate; refine wpList_mapUpdate_own _ rfl _ _ _ 103 rfl 3 3 keyInt Tryz.underlying103 _ b j D rfl HM2.out.own (by unfold maxLen; omega) _ _ _ rfl rfl (keyOf_wf HWI.out) _ [] (plainElem_int Tryz.underlying3 (WalkArith.wf_i64 (by omega))) ?_; intro w3 hown3 hg3; have HO3 := Lib.hid hown3; have HG3 := Lib.hid hg3; clear hown3 hg3) | fail)
          go_roundw
          case rel =>
            have hs := HS.out
            rw [stepK, HJ.out, if_neg HIN.out, HP.out] at hs
            simp only [if_true] at hs
            have hit := HM2.out.own.tidy keyInt
            refine ⟨j + 1, _, by omega, by go_num, Lib.hid (by rw [hs]; exact HM2.out.put HIN.out HO3.out), Lib.hid (fun id hid => ?_), Lib.hid (HG2.out.trans HG3.out)⟩
            rw [hs] at hid
            by_cases e : id = i
            · subst e
              rw [atKey_put_same hit.isMap (keyLit _), firstI_new pr id E j hjl HIN.out (by rw [HJ.out]; exact HP.out) (by rw [HJ.out])]
            · have hid2 : id ∈ fillK pr (E.take j) := by
                rcases List.mem_append.1 hid with h | h
                · exact h
                · exact absurd (List.mem_singleton.1 h) e
              rw [atKey_put_other (litNe e), firstI_stay pr id E j hjl hid2]
              exact HV.out id hid2
          case measure => simp [intOf]; omega
    · have hjl : j = E.length := by have := HN.out; omega
      have hM := HM.out
      have hV := HV.out
      rw [hjl, List.take_length] at hM hV
      have HM' := Lib.hid (show MapIs wr b len D (fillK pr E) from hM.mono (by have := HN.out; omega))
      have HV' := Lib.hid hV
      clear hM hV hjl HM HV
      go_wp2_with fail
      exact bodyPost_end (v := .tuple #[]) (by simp [results, Tryz.results61]) rfl ⟨rfl, ⟨D, HM'.out, HV'.out⟩, HG.out⟩

set_option maxRecDepth 100000 in
set_option maxHeartbeats 2000000 in
theorem fill1_any (g : Nat) (P : Addr) (pr : Ev → Bool) (w : World) (B b n0 : Nat) (D0 : DataW Unit) (a : Option Addr) (len cap : Nat) (E : List Ev) (hB : B ≤ b) (hBw : B ≤ w.heap.size) (hE : EIs B w a len E) (hwf : ∀ e ∈ E, (Lit.int .i64 e.i).wf = true) (hlen : len ≤ 2000000)
    (hm : w.ownsMap Tryz.prog 3 (plainElem (H := Unit) Tryz.prog 3) b n0 D0)
    (heg : ∀ (args : Array Value) (w1 : World), (callFunc g args).run Tryz.prog w1 = .ok (.enter g args) w1)
    (hcall : ∀ (w1 : World) (i d c : Int) (bd : ByteArray) (at_ t r n s : Int), w.grownBy w1 (some b) → Calls Tryz.prog g #[.agg #[.int .i64 i, .int .i64 d, .int .i64 c, .string bd, .int .i64 at_, .int .i64 t, .int .i64 r, .int .i64 n, .int .i64 s], .pointer (some P)] w1 fun e w2 => e = .returned (.bool (pr ⟨i, d, c, bd, at_, t, r, n, s⟩)) ∧ Below w1.heap.size w1 w2) :
    Calls Tryz.prog 61 #[.map (some b), .slice a len cap, .func (.func g) #[] #[.pointer (some P)]] w fun e w' => e = .returned (.tuple #[]) ∧ (∃ D, MapIs w' b len D (fillK pr E) ∧ ∀ id ∈ fillK pr E, D.atKey (.int .i64 id) (.lit (.int .i64 0)) = .lit (.int .i64 (firstI pr id E))) ∧ w.grownBy w' (some b) := by
  have HN := Lib.hid hE.row.hlen
  have HT := Lib.hid hE
  have HW := Lib.hid hwf
  have HC := Lib.hid hcall
  have HM := Lib.hid hm
  clear hE hwf hcall hm
  go_enter Tryz.func61, Tryz.ntmps61
  go_wp2_with (first | (refine wpList_clear_own rfl _ 103 rfl Tryz.underlying103 rfl HM.out ?_; intro w1 hown1 hg1) | fail)
  have HM1 := Lib.hid (MapIs.empty hown1)
  have HG1 := Lib.hid hg1
  clear hown1 hg1 HM
  go_loopw [13] (fun i wr => ∃ (j : Nat) (D : DataW Unit), j ≤ len ∧ i = .int .i64 j ∧ Hid (MapIs wr b j D (fillK pr (E.take j))) ∧ Hid (∀ id ∈ fillK pr (E.take j), D.atKey (.int .i64 id) (.lit (.int .i64 0)) = .lit (.int .i64 (firstI pr id (E.take j)))) ∧ Hid (w.grownBy wr (some b))) (fun i _ => len - (intOf i).toNat)
  case atStart => exact ⟨0, .map [], by omega, rfl, Lib.hid (by simpa [fillK] using HM1.out), Lib.hid (by simp [fillK]), HG1⟩
  case round =>
    obtain ⟨j, D, hj, rfl, HM, HV, HG⟩ := hrel
    by_cases hlt : (j : Int) < (len : Int)
    · have hjl : j < E.length := by have := HN.out; omega
      have hbw : Below B w wr := (Below.refl _ _).grown HG.out hBw (fun k e => by cases e; exact hB)
      obtain ⟨b', off, i, d, c, bd, at_, t, r, n, s, rfl, hb', hlj, hbd, x0, x1, x2, x3, x4, x5, x6, x7, x8⟩ := (HT.out.below hbw).at j hjl
      have HJ := Lib.hid hlj
      have hwi := HW.out E[j] (List.getElem_mem _)
      rw [hlj] at hwi
      have HWI := Lib.hid (show (Lit.int .i64 i).wf = true from hwi)
      have HS := Lib.hid (fillK_snoc pr E j hjl)
      clear hlj hbd hb' hbw hwi
      have HB1 := Lib.hid (bOne wr (.cells #[.int .i64 i, .int .i64 d, .int .i64 c, .string bd, .int .i64 at_, .int .i64 t, .int .i64 r, .int .i64 n, .int .i64 s] 39))
      have HE := Lib.hid (Evt.B9.new wr i d c bd at_ t r n s 39)
      have HM1 := Lib.hid (HM.out.below HB1.out)
      have HG1 := Lib.hid (HG.out.trans (grown_of_below HB1.out (some b)))
      have HH := Lib.hid (HM.out.keys i)
      by_cases hin : i ∈ fillK pr (E.take j)
      · have HIN := Lib.hid hin
        have hha : Maps.has D (.int .i64 i) = true := by rw [HH.out]; exact decide_eq_true hin
        clear hin
        go_wp2_with (first | (at_lookup; refine wpList_lookup_own_ok_int _ rfl _ _ 103 rfl 3 3 .i64 keyInt Tryz.underlying103 Tryz.underlying3 (zeroInt _) b j D rfl HM1.out.own _ (.int .i64 i) rfl (keyOf_wf HWI.out) ?_; intro c1 hat hwc; rw [hha]; clear hat hwc) | fail)
        go_roundw
        case rel =>
          have hs := HS.out
          rw [stepK, HJ.out, if_pos HIN.out] at hs
          refine ⟨j + 1, D, by omega, by go_num, Lib.hid (by rw [hs]; exact HM1.out.mono (by omega)), Lib.hid (fun id hid => ?_), HG1⟩
          rw [hs] at hid
          rw [firstI_stay pr id E j hjl hid]
          exact HV.out id hid
        case measure => simp [intOf]; omega
      · have HIN := Lib.hid hin
        have hha : Maps.has D (.int .i64 i) = false := by rw [HH.out]; exact decide_eq_false hin
        clear hin
        go_wp2_with (first | (at_lookup; refine wpList_lookup_own_ok_int _ rfl _ _ 103 rfl 3 3 .i64 keyInt Tryz.underlying103 Tryz.underlying3 (zeroInt _) b j D rfl HM1.out.own _ (.int .i64 i) rfl (keyOf_wf HWI.out) ?_; intro c1 hat hwc; rw [hha]; clear hat hwc) | fail)
        refine (HC.out _ i d c bd at_ t r n s HG1.out).mono ?_
        rintro e w2 ⟨rfl, hb2⟩
        have HM2 := Lib.hid (HM1.out.below hb2)
        have HG2 := Lib.hid (HG1.out.trans (grown_of_below hb2 (some b)))
        have HE2 := Lib.hid (HE.out.below hb2)
        clear hb2
        obtain ⟨y0, y1, y2, y3, y4, y5, y6, y7, y8, ylt⟩ := HE2.out
        cases hp : pr ⟨i, d, c, bd, at_, t, r, n, s⟩ with
        | false =>
          have HP := Lib.hid hp
          clear hp
          go_wp2_with fail
          go_roundw
          case rel =>
            have hs := HS.out
            rw [stepK, HJ.out, if_neg HIN.out, HP.out] at hs
            simp only [Bool.false_eq_true, if_false] at hs
            refine ⟨j + 1, D, by omega, by go_num, Lib.hid (by rw [hs]; exact HM2.out.mono (by omega)), Lib.hid (fun id hid => ?_), HG2⟩
            rw [hs] at hid
            rw [firstI_stay pr id E j hjl hid]
            exact HV.out id hid
          case measure => simp [intOf]; omega
        | true =>
          have HP := Lib.hid hp
          clear hp
          go_wp2_with (first | (at_mapUpdate; refine wpList_mapUpdate_own _ rfl _ _ _ 103 rfl 3 3 keyInt Tryz.underlying103 _ b j D rfl HM2.out.own (by unfold maxLen; omega) _ _ _ rfl rfl (keyOf_wf HWI.out) _ [] (plainElem_int Tryz.underlying3 (WalkArith.wf_i64 (by omega))) ?_; intro w3 hown3 hg3; have HO3 := Lib.hid hown3; have HG3 := Lib.hid hg3; clear hown3 hg3) | fail)
          go_roundw
          case rel =>
            have hs := HS.out
            rw [stepK, HJ.out, if_neg HIN.out, HP.out] at hs
            simp only [if_true] at hs
            have hit := HM2.out.own.tidy keyInt
            refine ⟨j + 1, _, by omega, by go_num, Lib.hid (by rw [hs]; exact HM2.out.put HIN.out HO3.out), Lib.hid (fun id hid => ?_), Lib.hid (HG2.out.trans HG3.out)⟩
            rw [hs] at hid
            by_cases e : id = i
            · subst e
              rw [atKey_put_same hit.isMap (keyLit _), firstI_new pr id E j hjl HIN.out (by rw [HJ.out]; exact HP.out) (by rw [HJ.out])]
            · have hid2 : id ∈ fillK pr (E.take j) := by
                rcases List.mem_append.1 hid with h | h
                · exact h
                · exact absurd (List.mem_singleton.1 h) e
              rw [atKey_put_other (litNe e), firstI_stay pr id E j hjl hid2]
              exact HV.out id hid2
          case measure => simp [intOf]; omega
    · have hjl : j = E.length := by have := HN.out; omega
      have hM := HM.out
      have hV := HV.out
      rw [hjl, List.take_length] at hM hV
      have HM' := Lib.hid (show MapIs wr b len D (fillK pr E) from hM.mono (by have := HN.out; omega))
      have HV' := Lib.hid hV
      clear hM hV hjl HM HV
      go_wp2_with fail
      exact bodyPost_end (v := .tuple #[]) (by simp [results, Tryz.results61]) rfl ⟨rfl, ⟨D, HM'.out, HV'.out⟩, HG.out⟩

end Go.Proofs.YtkndpkingmemoaaGreatDoor.Gat
namespace Go.Proofs.YtkndpkingmemoaaGreatDoor.Gat
open Go.RowKit Go.Maps
open Lnk (bOne bAfter keyInt grown_of_below low_after)
set_option linter.unusedVariables false

def isI (id : Int) (e : Ev) : Bool := e.i == id
/-- the place of the first message of an id, or -1 -/
def atI (id : Int) (l : List Ev) : Int := if l.any (isI id) then (l.findIdx (isI id) : Int) else -1
theorem atI_yes {id : Int} {l : List Ev} {j : Nat} (h : j < l.length) (hi : l[j].i = id) (hno : ∀ k, (hk : k < l.length) → k < j → l[k].i ≠ id) : atI id l = (j : Int) := by
  have h1 : l.any (isI id) = true := List.any_eq_true.2 ⟨l[j], List.getElem_mem h, by simp [isI, hi]⟩
  have h2 : l.findIdx (isI id) = j := by
    rw [List.findIdx_eq h]
    exact ⟨by simp [isI, hi], fun k hk => by simpa [isI] using hno k (by omega) hk⟩
  unfold atI
  rw [if_pos h1, h2]
theorem atI_no {id : Int} {l : List Ev} (hno : ∀ k, (hk : k < l.length) → l[k].i ≠ id) : atI id l = -1 := by
  have h1 : ¬ l.any (isI id) = true := by
    intro h
    obtain ⟨e, he, h2⟩ := List.any_eq_true.1 h
    obtain ⟨k, hk, rfl⟩ := List.mem_iff_getElem.1 he
    exact hno k hk (by simpa [isI] using h2)
  unfold atI
  rw [if_neg h1]
set_option maxRecDepth 100000 in
set_option maxHeartbeats 2000000 in
theorem specEventAt_any (w : World) (de qu wi ti qa bu le pb pc pj pt nw la : Int) (ea : Option Addr) (en ec : Nat) (ka : Option Addr) (kn kc : Nat) (tu : Int) (fa : Option Addr) (fn fc : Nat) (ra : Option Addr) (rn rc : Nat) (tk ac dr : Int) (E : List Ev) (K : List Lk) (F R : List Int) (x : Int) (h : GIs w.heap.size w ea en ka kn fa fn ra rn E K F R) :
    Calls Tryz.prog 20 #[.agg #[.int .i64 de, .int .i64 qu, .int .i64 wi, .int .i64 ti, .int .i64 qa, .int .i64 bu, .int .i64 le, .int .i64 pb, .int .i64 pc, .int .i64 pj, .int .i64 pt, .int .i64 nw, .int .i64 la, .slice ea en ec, .slice ka kn kc, .int .i64 tu, .slice fa fn fc, .slice ra rn rc, .int .i64 tk, .int .i64 ac, .int .i64 dr], .int .i64 x] w fun e w' => e = .returned (.int .i64 (atI x E)) ∧ Below w.heap.size w w' := by
  obtain ⟨W0, hW0⟩ : ∃ W, W = w.alloc (.cells #[.int .i64 de, .int .i64 qu, .int .i64 wi, .int .i64 ti, .int .i64 qa, .int .i64 bu, .int .i64 le, .int .i64 pb, .int .i64 pc, .int .i64 pj, .int .i64 pt, .int .i64 nw, .int .i64 la, .slice ea en ec, .slice ka kn kc, .int .i64 tu, .slice fa fn fc, .slice ra rn rc, .int .i64 tk, .int .i64 ac, .int .i64 dr] 32) := ⟨_, rfl⟩
  have HA : Hid (Box W0 w.heap.size 32 [.int .i64 de, .int .i64 qu, .int .i64 wi, .int .i64 ti, .int .i64 qa, .int .i64 bu, .int .i64 le, .int .i64 pb, .int .i64 pc, .int .i64 pj, .int .i64 pt, .int .i64 nw, .int .i64 la, .slice ea en ec, .slice ka kn kc, .int .i64 tu, .slice fa fn fc, .slice ra rn rc, .int .i64 tk, .int .i64 ac, .int .i64 dr]) := Lib.hid (by rw [hW0]; exact Box.new w [.int .i64 de, .int .i64 qu, .int .i64 wi, .int .i64 ti, .int .i64 qa, .int .i64 bu, .int .i64 le, .int .i64 pb, .int .i64 pc, .int .i64 pj, .int .i64 pt, .int .i64 nw, .int .i64 la, .slice ea en ec, .slice ka kn kc, .int .i64 tu, .slice fa fn fc, .slice ra rn rc, .int .i64 tk, .int .i64 ac, .int .i64 dr] 32)
  have HL : Hid (Below w.heap.size w W0) := Lib.hid (by rw [hW0]; exact bOne _ _)
  have HT := Lib.hid (h.here HL.out).ev
  have HN := Lib.hid HT.out.row.hlen
  have hle := HT.out.row.le
  unfold maxLen at hle
  have HWE := Lib.hid hW0
  clear h hW0
  have c13 := HA.out.cell 13 _ rfl
  go_enter Tryz.func20, Tryz.ntmps20
  go_wp2_with fail
  rw [← HWE.out]
  go_loopw [5] (fun i wr => ∃ j : Nat, j ≤ en ∧ i = .int .i64 j ∧ Hid (∀ k, (hk : k < E.length) → k < j → E[k].i ≠ x) ∧ wr = W0) (fun i _ => en - (intOf i).toNat)
  case atStart => exact ⟨0, by omega, rfl, Lib.hid (fun k _ hk => by omega), rfl⟩
  case round =>
    obtain ⟨j, hj, rfl, HNO, rfl⟩ := hrel
    by_cases hlt : (j : Int) < (en : Int)
    · have hjl : j < E.length := by have := HN.out; omega
      obtain ⟨b', off, i', d', c', bd', a', t', r', n', s', rfl, hb', hlj, hbd', x0, x1, x2, x3, x4, x5, x6, x7, x8⟩ := HT.out.at j hjl
      have HJ := Lib.hid (show E[j].i = i' by rw [hlj])
      clear hlj
      cases h1 : (i' == x) with
      | true =>
        have HR := Lib.hid (atI_yes hjl (by rw [HJ.out]; simpa using h1) HNO.out)
        go_wp2_with fail
        go_ret
        exact ⟨by rw [HR.out]; rfl, HL.out⟩
      | false =>
        have HN2 := Lib.hid (show ∀ k, (hk : k < E.length) → k < j + 1 → E[k].i ≠ x from fun k hk hkj => by
          rcases (show k < j ∨ k = j by omega) with h | rfl
          · exact HNO.out k hk h
          · rw [HJ.out]; simpa using h1)
        go_wp2_with fail
        go_roundw
        case rel => exact ⟨j + 1, by omega, by go_num, HN2, by trivial⟩
        case measure => simp [intOf]; omega
    · have hjl : j = E.length := by have := HN.out; omega
      have HR := Lib.hid (atI_no (id := x) (l := E) (fun k hk => HNO.out k hk (by omega)))
      clear hjl
      go_wp2_with fail
      go_ret
      exact ⟨by rw [HR.out]; rfl, HL.out⟩

end Go.Proofs.YtkndpkingmemoaaGreatDoor.Gat
namespace Go.Proofs.YtkndpkingmemoaaGreatDoor.Gat
open Go.RowKit
open Lnk (bOne bAfter IOwn IIs YOwn YIs below_keep below_drew' bcell low_after low_alloc grown_of_below)
set_option linter.unusedVariables false
set_option linter.unusedSimpArgs false

theorem eown_cells {B : Nat} {w : World} {E : TypeId} {g n' cap : Nat} {l : List Ev} (h : ROwn evS B w E (.slice (some ⟨g, 0, none⟩) n' cap) l) (k : Nat) (hk : k < l.length) :
    C9 w g (k * 9) l[k].i l[k].d l[k].c l[k].b l[k].a l[k].t l[k].r l[k].n l[k].s :=
  ⟨h.cellAt k hk 0 _ rfl, h.cellAt k hk 1 _ rfl, h.cellAt k hk 2 _ rfl, h.cellAt k hk 3 _ rfl, h.cellAt k hk 4 _ rfl, h.cellAt k hk 5 _ rfl, h.cellAt k hk 6 _ rfl, h.cellAt k hk 7 _ rfl, h.cellAt k hk 8 _ rfl⟩
theorem eown_cellx {B : Nat} {w : World} {E : TypeId} {g n' cap : Nat} {l : List Ev} (h : ROwn evS B w E (.slice (some ⟨g, 0, none⟩) n' cap) l) (k : Nat) (hk : k < l.length) {i d c : Int} {bd : ByteArray} {at_ t r n s : Int} (hx : l[k] = ⟨i, d, c, bd, at_, t, r, n, s⟩) : C9 w g (k * 9) i d c bd at_ t r n s := by
  have h1 := eown_cells h k hk
  rw [hx] at h1
  exact h1
theorem iis_grown {w w' : World} {r : Option Nat} {a : Option Addr} {n : Nat} {l : List Int} (h : IIs w.heap.size w a n l) (hg : w.grownBy w' r) (hne : ∀ b off, a = some ⟨b, off, none⟩ → some b ≠ r) : IIs w'.heap.size w' a n l :=
  ⟨h.hlen, fun k hk => by
    obtain ⟨b, off, e, hlt, h0⟩ := h.cell k hk
    exact ⟨b, off, e, Nat.lt_of_lt_of_le hlt hg.size, hg.cell (a := ⟨b, off + k, none⟩) h0 (hne b off e)⟩⟩
theorem iis_at {B : Nat} {w : World} {a : Option Addr} {n : Nat} {l : List Int} (h : IIs B w a n l) (k : Nat) (hk : k < l.length) : ∃ b off x, a = some ⟨b, off, none⟩ ∧ b < B ∧ l[k] = x ∧ w.cell? ⟨b, off + k, none⟩ = some (.int .i64 x) := by
  obtain ⟨b, off, e, hlt, h0⟩ := h.cell k hk
  exact ⟨b, off, _, e, hlt, rfl, h0⟩
/-- a message that is back -/
def bkE (e : Ev) : Ev := ⟨e.i, e.d, e.c, e.b, e.a, e.t, e.r, e.n, Evt.bk e.s⟩
theorem bkE_of {x : Ev} {i d c : Int} {bd : ByteArray} {at_ t r n s : Int} (h : x = ⟨i, d, c, bd, at_, t, r, n, s⟩) : bkE x = ⟨i, d, c, bd, at_, t, r, n, Evt.bk s⟩ := by subst h; rfl
def back1 (E : List Ev) (id : Int) : List Ev := E.set (E.findIdx (isI id)) (bkE (E.getD (E.findIdx (isI id)) ev0))
def backE (E : List Ev) (ids : List Int) : List Ev := ids.foldl back1 E
theorem back1_len (E : List Ev) (id : Int) : (back1 E id).length = E.length := by simp [back1]
theorem backE_len : ∀ (ids : List Int) (E : List Ev), (backE E ids).length = E.length
  | [], E => rfl
  | x :: ids, E => by
    show (backE (back1 E x) ids).length = _
    rw [backE_len ids, back1_len]
theorem backE_snoc (E : List Ev) (ids : List Int) (j : Nat) (h : j < ids.length) : backE E (ids.take (j + 1)) = back1 (backE E (ids.take j)) ids[j] := by
  unfold backE
  rw [List.take_succ_eq_append_getElem h, List.foldl_append]
  rfl
theorem mem_back1 {E : List Ev} {id : Int} {e : Ev} (h : e ∈ back1 E id) : e ∈ E ∨ ∃ e' ∈ E, e = bkE e' := by
  by_cases hk : E.findIdx (isI id) < E.length
  · rcases List.mem_or_eq_of_mem_set h with h | h
    · exact .inl h
    · refine .inr ⟨E[E.findIdx (isI id)], List.getElem_mem hk, ?_⟩
      rw [h]
      simp [List.getD_eq_getElem?_getD, List.getElem?_eq_getElem hk]
  · unfold back1 at h
    rw [List.set_eq_of_length_le (by omega)] at h
    exact .inl h
theorem body_back {E : List Ev} {id : Int} (h : ∀ e ∈ E, e.b.size ≤ maxLen) : ∀ e ∈ back1 E id, e.b.size ≤ maxLen := fun e he => by
  rcases mem_back1 he with h1 | ⟨e', h1, rfl⟩
  · exact h e h1
  · exact h e' h1
theorem at_range (id : Int) (E : List Ev) : (atI id E = -1 ∧ back1 E id = E) ∨ ∃ (k : Nat) (hk : k < E.length), atI id E = (k : Int) ∧ back1 E id = E.set k (bkE E[k]) := by
  unfold atI back1
  by_cases h : E.any (isI id) = true
  · rw [if_pos h]
    obtain ⟨x, hx, hp⟩ := List.any_eq_true.1 h
    have hk : E.findIdx (isI id) < E.length := List.findIdx_lt_length_of_exists ⟨x, hx, hp⟩
    exact .inr ⟨_, hk, rfl, by simp [List.getD_eq_getElem?_getD, List.getElem?_eq_getElem hk]⟩
  · rw [if_neg h]
    refine .inl ⟨rfl, List.set_eq_of_length_le ?_⟩
    rw [List.findIdx_eq_length_of_false fun x hx => by
      cases hq : isI id x with
      | false => rfl
      | true => exact absurd (List.any_eq_true.2 ⟨x, hx, hq⟩) h]
    exact Nat.le_refl _
/-- messages without the ones of an id -/
def goneE (id : Int) (E : List Ev) : List Ev := E.filter fun e => !(e.i == id)
theorem own_some {α : Type} {S : Shp α} {B : Nat} {w : World} {E : TypeId} {a : Option Addr} {n c : Nat} {l : List α} (h : ROwn S B w E (.slice a n c) l) (hl : 0 < l.length) : ∃ g, a = some ⟨g, 0, none⟩ ∧ g < w.heap.size := by
  rcases h.2 with ⟨e, h0⟩ | ⟨g, c', cur, e, hb, hg, _⟩
  · omega
  · simp only [Value.slice.injEq] at e
    exact ⟨g, e.1, (h.lt g (by rw [e.1]; rfl)).2⟩
theorem c9_below {w w' : World} {b o : Nat} {i d c : Int} {bd : ByteArray} {a t r n s : Int} (h : C9 w b o i d c bd a t r n s) (hb : Below w.heap.size w w') : C9 w' b o i d c bd a t r n s :=
  ⟨(hb.cell (p := ⟨b, o, none⟩) (World.block_lt_of_cell? _ _ h.c0)).trans h.c0, (hb.cell (p := ⟨b, o + 1, none⟩) (World.block_lt_of_cell? _ _ h.c1)).trans h.c1, (hb.cell (p := ⟨b, o + 2, none⟩) (World.block_lt_of_cell? _ _ h.c2)).trans h.c2, (hb.cell (p := ⟨b, o + 3, none⟩) (World.block_lt_of_cell? _ _ h.c3)).trans h.c3, (hb.cell (p := ⟨b, o + 4, none⟩) (World.block_lt_of_cell? _ _ h.c4)).trans h.c4, (hb.cell (p := ⟨b, o + 5, none⟩) (World.block_lt_of_cell? _ _ h.c5)).trans h.c5, (hb.cell (p := ⟨b, o + 6, none⟩) (World.block_lt_of_cell? _ _ h.c6)).trans h.c6, (hb.cell (p := ⟨b, o + 7, none⟩) (World.block_lt_of_cell? _ _ h.c7)).trans h.c7, (hb.cell (p := ⟨b, o + 8, none⟩) (World.block_lt_of_cell? _ _ h.c8)).trans h.c8⟩
theorem grown_new {w w1 w2 : World} {r : Option Nat} {k : Nat} (h : w.grownBy w1 r) (h2 : w1.grownBy w2 (some k)) (hk : w.heap.size ≤ k) : w.grownBy w2 r :=
  ⟨h2.os.trans h.os, h2.tape.trans h.tape, h2.output.trans h.output, Nat.le_trans h.size h2.size, fun j hj hn => (h2.block j (Nat.lt_of_lt_of_le hj h.size) (fun e => by injection e; omega)).trans (h.block j hj hn)⟩
/-- a block that is none of the gate's changed -/
theorem GOwn.notnew {B : Nat} {w0 w w' : World} {ev lk lf lt : Value} {vs : List Value} {E0 E : List Ev} {K : List Lk} {F R : List Int} {k : Nat} (h : GOwn B w ev lk lf lt vs E K F R) (h0 : GOwn B w0 ev lk lf lt vs E0 K F R) (hg : w.grownBy w' (some k)) (hk : w0.heap.size ≤ k) : GOwn B w' ev lk lf lt vs E K F R := by
  refine ⟨h.rows.kept hg fun r hr => ?_, h.len, h.body⟩
  have key : ∀ q, r.v.ownBlock = some q → q < w0.heap.size := by
    intro q hq
    unfold gRows at hr
    rcases List.mem_cons.1 hr with rfl | hr
    · exact ((h0.rows.at_ (evR ev E0) (by simp [gRows])).lt q hq).2
    · exact ((h0.rows.at_ r (by unfold gRows; exact List.mem_cons_of_mem _ hr)).lt q hq).2
  cases hv : r.v.ownBlock with
  | none => exact .inl rfl
  | some q => exact .inr (fun e => by injection e; have := key q hv; omega)

set_option maxRecDepth 100000 in
set_option maxHeartbeats 8000000 in
theorem back_any (B : Nat) (w : World) (de qu wi ti qa bu le pb pc pj pt nw la : Int) (ea : Option Addr) (ec : Nat) (ka : Option Addr) (kc : Nat) (tu : Int) (fa : Option Addr) (fc : Nat) (ra : Option Addr) (rc : Nat) (tk ac dr : Int) (vs : List Value) (E0 : List Ev) (K : List Lk) (F R : List Int) (ia : Option Addr) (il ic : Nat) (ids : List Int) (h : GOwn B w (.slice ea E0.length ec) (.slice ka K.length kc) (.slice fa F.length fc) (.slice ra R.length rc) vs (E0) K F R) (hi : IIs w.heap.size w ia il ids) (hsep : ∀ b off, ia = some ⟨b, off, none⟩ → some b ≠ (Value.slice ea E0.length ec).ownBlock) (hE : E0.length ≤ 1048576) (hn : il ≤ 1048576) :
    Calls Tryz.prog 65 #[.agg #[.int .i64 de, .int .i64 qu, .int .i64 wi, .int .i64 ti, .int .i64 qa, .int .i64 bu, .int .i64 le, .int .i64 pb, .int .i64 pc, .int .i64 pj, .int .i64 pt, .int .i64 nw, .int .i64 la, .slice ea E0.length ec, .slice ka K.length kc, .int .i64 tu, .slice fa F.length fc, .slice ra R.length rc, .int .i64 tk, .int .i64 ac, .int .i64 dr], .slice ia il ic] w fun e w' => e = .returned (.agg #[.int .i64 de, .int .i64 qu, .int .i64 wi, .int .i64 ti, .int .i64 qa, .int .i64 bu, .int .i64 le, .int .i64 pb, .int .i64 pc, .int .i64 pj, .int .i64 pt, .int .i64 nw, .int .i64 la, .slice ea E0.length ec, .slice ka K.length kc, .int .i64 tu, .slice fa F.length fc, .slice ra R.length rc, .int .i64 tk, .int .i64 ac, .int .i64 dr]) ∧ GOwn B w' (.slice ea E0.length ec) (.slice ka K.length kc) (.slice fa F.length fc) (.slice ra R.length rc) vs (backE E0 ids) K F R ∧ w.grownBy w' (Value.slice ea E0.length ec).ownBlock := by
  obtain ⟨W0, hW0⟩ : ∃ W, W = (w.alloc (.cells #[.int .i64 de, .int .i64 qu, .int .i64 wi, .int .i64 ti, .int .i64 qa, .int .i64 bu, .int .i64 le, .int .i64 pb, .int .i64 pc, .int .i64 pj, .int .i64 pt, .int .i64 nw, .int .i64 la, .slice ea E0.length ec, .slice ka K.length kc, .int .i64 tu, .slice fa F.length fc, .slice ra R.length rc, .int .i64 tk, .int .i64 ac, .int .i64 dr] 32)).alloc (.cells #[.int .i64 0, .int .i64 0, .int .i64 0, .int .i64 0, .int .i64 0, .int .i64 0, .int .i64 0, .int .i64 0, .int .i64 0, .int .i64 0, .int .i64 0, .int .i64 0, .int .i64 0, .slice none 0 0, .slice none 0 0, .int .i64 0, .slice none 0 0, .slice none 0 0, .int .i64 0, .int .i64 0, .int .i64 0] 32) := ⟨_, rfl⟩
  have hb01 := bOne w (.cells #[.int .i64 de, .int .i64 qu, .int .i64 wi, .int .i64 ti, .int .i64 qa, .int .i64 bu, .int .i64 le, .int .i64 pb, .int .i64 pc, .int .i64 pj, .int .i64 pt, .int .i64 nw, .int .i64 la, .slice ea E0.length ec, .slice ka K.length kc, .int .i64 tu, .slice fa F.length fc, .slice ra R.length rc, .int .i64 tk, .int .i64 ac, .int .i64 dr] 32)
  have hb02 := bOne (w.alloc (.cells #[.int .i64 de, .int .i64 qu, .int .i64 wi, .int .i64 ti, .int .i64 qa, .int .i64 bu, .int .i64 le, .int .i64 pb, .int .i64 pc, .int .i64 pj, .int .i64 pt, .int .i64 nw, .int .i64 la, .slice ea E0.length ec, .slice ka K.length kc, .int .i64 tu, .slice fa F.length fc, .slice ra R.length rc, .int .i64 tk, .int .i64 ac, .int .i64 dr] 32)) (.cells #[.int .i64 0, .int .i64 0, .int .i64 0, .int .i64 0, .int .i64 0, .int .i64 0, .int .i64 0, .int .i64 0, .int .i64 0, .int .i64 0, .int .i64 0, .int .i64 0, .int .i64 0, .slice none 0 0, .slice none 0 0, .int .i64 0, .slice none 0 0, .slice none 0 0, .int .i64 0, .int .i64 0, .int .i64 0] 32)
  have HA : Hid (Box W0 w.heap.size 32 [.int .i64 de, .int .i64 qu, .int .i64 wi, .int .i64 ti, .int .i64 qa, .int .i64 bu, .int .i64 le, .int .i64 pb, .int .i64 pc, .int .i64 pj, .int .i64 pt, .int .i64 nw, .int .i64 la, .slice ea E0.length ec, .slice ka K.length kc, .int .i64 tu, .slice fa F.length fc, .slice ra R.length rc, .int .i64 tk, .int .i64 ac, .int .i64 dr]) := Lib.hid (by rw [hW0]; exact (Box.new w [.int .i64 de, .int .i64 qu, .int .i64 wi, .int .i64 ti, .int .i64 qa, .int .i64 bu, .int .i64 le, .int .i64 pb, .int .i64 pc, .int .i64 pj, .int .i64 pt, .int .i64 nw, .int .i64 la, .slice ea E0.length ec, .slice ka K.length kc, .int .i64 tu, .slice fa F.length fc, .slice ra R.length rc, .int .i64 tk, .int .i64 ac, .int .i64 dr] 32).below hb02)
  have HR : Hid (Box W0 (w.heap.size + 1) 32 [.int .i64 0, .int .i64 0, .int .i64 0, .int .i64 0, .int .i64 0, .int .i64 0, .int .i64 0, .int .i64 0, .int .i64 0, .int .i64 0, .int .i64 0, .int .i64 0, .int .i64 0, .slice none 0 0, .slice none 0 0, .int .i64 0, .slice none 0 0, .slice none 0 0, .int .i64 0, .int .i64 0, .int .i64 0]) := Lib.hid (by
    rw [hW0]
    have := Box.new (w.alloc (.cells #[.int .i64 de, .int .i64 qu, .int .i64 wi, .int .i64 ti, .int .i64 qa, .int .i64 bu, .int .i64 le, .int .i64 pb, .int .i64 pc, .int .i64 pj, .int .i64 pt, .int .i64 nw, .int .i64 la, .slice ea E0.length ec, .slice ka K.length kc, .int .i64 tu, .slice fa F.length fc, .slice ra R.length rc, .int .i64 tk, .int .i64 ac, .int .i64 dr] 32)) [.int .i64 0, .int .i64 0, .int .i64 0, .int .i64 0, .int .i64 0, .int .i64 0, .int .i64 0, .int .i64 0, .int .i64 0, .int .i64 0, .int .i64 0, .int .i64 0, .int .i64 0, .slice none 0 0, .slice none 0 0, .int .i64 0, .slice none 0 0, .slice none 0 0, .int .i64 0, .int .i64 0, .int .i64 0] 32
    simpa using this)
  have HL : Hid (Below w.heap.size w W0) := Lib.hid (by rw [hW0]; exact hb01.trans (hb02.mono (by simp)))
  have HS0 := Lib.hid (show W0.heap.size = w.heap.size + 1 + 1 by rw [hW0]; simp)
  have HWE := Lib.hid hW0
  have HO := Lib.hid (show GOwn B W0 (.slice ea E0.length ec) (.slice ka K.length kc) (.slice fa F.length fc) (.slice ra R.length rc) vs (E0) K F R from by rw [hW0]; exact (h.below hb01).below hb02)
  have HII := Lib.hid (show IIs W0.heap.size W0 ia il ids from by rw [hW0]; exact ((hi.below hb01).mono hb01.size).below hb02 |>.mono hb02.size)
  have HG := Lib.hid (show w.grownBy W0 (Value.slice ea E0.length ec).ownBlock from by rw [hW0]; exact (World.grownBy_alloc w _ _).trans (World.grownBy_alloc _ _ _))
  have HSP := Lib.hid hsep
  have HEL := Lib.hid hE
  have HNN := Lib.hid hn
  have HIL := Lib.hid hi.hlen
  have HOW := Lib.hid h.evO
  have HOO := Lib.hid h
  clear h hi hsep hW0 hb01 hb02 hE hn HS0
  go_enter Tryz.func65, Tryz.ntmps65
  go_upto_region 2 with fail
  rw [← HWE.out]
  clear HWE
  go_loopw [5, 6] (fun i kv wr => ∃ j : Nat, j ≤ il ∧ i = .int .i64 j ∧ Hid (w.grownBy wr (Value.slice ea E0.length ec).ownBlock) ∧ Hid (Box wr w.heap.size 32 [.int .i64 de, .int .i64 qu, .int .i64 wi, .int .i64 ti, .int .i64 qa, .int .i64 bu, .int .i64 le, .int .i64 pb, .int .i64 pc, .int .i64 pj, .int .i64 pt, .int .i64 nw, .int .i64 la, .slice ea E0.length ec, .slice ka K.length kc, .int .i64 tu, .slice fa F.length fc, .slice ra R.length rc, .int .i64 tk, .int .i64 ac, .int .i64 dr]) ∧ Hid (Box wr (w.heap.size + 1) 32 [.int .i64 0, .int .i64 0, .int .i64 0, .int .i64 0, .int .i64 0, .int .i64 0, .int .i64 0, .int .i64 0, .int .i64 0, .int .i64 0, .int .i64 0, .int .i64 0, .int .i64 0, .slice none 0 0, .slice none 0 0, .int .i64 0, .slice none 0 0, .slice none 0 0, .int .i64 0, .int .i64 0, .int .i64 0]) ∧ Hid (IIs wr.heap.size wr ia il ids) ∧ Hid (GOwn B wr (.slice ea E0.length ec) (.slice ka K.length kc) (.slice fa F.length fc) (.slice ra R.length rc) vs (backE E0 (ids.take j)) K F R)) (fun i _ _ => il - (intOf i).toNat)
  case atStart => exact ⟨0, by omega, rfl, HG, HA, HR, HII, HO⟩
  case round =>
    obtain ⟨j, hj, rfl, HG, HA, HR, HII, HO⟩ := hrel
    have hn := HNN.out
    by_cases hlt : (j : Int) < (il : Int)
    · have hjl : j < ids.length := by have := HIL.out; omega
      obtain ⟨EJ, hEJ⟩ : ∃ E, E = backE E0 (ids.take j) := ⟨_, rfl⟩
      have hEL : EJ.length = E0.length := by rw [hEJ, backE_len]
      have HSN := Lib.hid (backE_snoc E0 ids j hjl)
      rw [← hEJ] at HO HSN
      obtain ⟨ib, io, x, rfl, hib, hx, hc⟩ := iis_at HII.out j hjl
      rw [hx] at HSN
      have HLE := Lib.hid hEL
      have HIB := Lib.hid hib
      clear hEJ hx hib
      go_upto_region 4 with fail
      have HQ := Lib.hid (below_drew' (Below.refl wr.heap.size wr))
      have HIS := Lib.hid (by have h1 := (HO.out.below HQ.out); have h2 := h1.is; exact h2)
      refine wp_region_held_drew (S := fun w' => Box w' w.heap.size 32 [.int .i64 de, .int .i64 qu, .int .i64 wi, .int .i64 ti, .int .i64 qa, .int .i64 bu, .int .i64 le, .int .i64 pb, .int .i64 pc, .int .i64 pj, .int .i64 pt, .int .i64 nw, .int .i64 la, .slice ea E0.length ec, .slice ka K.length kc, .int .i64 tu, .slice fa F.length fc, .slice ra R.length rc, .int .i64 tk, .int .i64 ac, .int .i64 dr] ∧ w'.cell? ⟨ib, io + j, none⟩ = some (.int .i64 x)) (by kernel_rfl) ⟨HA.out.below HQ.out, (HQ.out.cell (p := ⟨ib, io + j, none⟩) (World.block_lt_of_cell? _ _ hc)).trans hc⟩ (fun hHeld => ?_)
      replace HO := Lib.hid (HO.out.below HQ.out)
      replace HR := Lib.hid (HR.out.below HQ.out)
      replace HII := Lib.hid (iis_grown HII.out (grown_of_below HQ.out none) (fun _ _ _ => by simp))
      replace HG := Lib.hid (HG.out.trans (grown_of_below HQ.out _))
      clear hc HA HQ hEL
      refine wpAnyH_take (i := 0) (oi := { dst := some _, op := _, type := _, pos := _, after := _, guard := _ }) (v := ?_) rfl (by kernel_rfl) (by kernel_rfl) (by kernel_rfl) (fun _ _ _ h => h) ?_ (by with_reducible assumption) ?_
      rotate_left 1
      focus (refine Or.inl ⟨by rfl, ?_⟩; intro wq hSw; refine exec_load_box ?_ 32 ?_ ?_ hSw.1 _ Tryz.underlying32 sizeGate; rotate_left 1; rfl; rfl)
      try simp only [Act.put, List.setIfInBounds_toArray, List.set_cons_zero, List.set_cons_succ]
      refine wpAnyH_take (i := 1) (oi := { dst := some _, op := _, type := _, pos := _, after := _, guard := _ }) (v := ?_) rfl (by kernel_rfl) (by kernel_rfl) (by kernel_rfl) (fun _ _ _ h => h) ?_ (by with_reducible assumption) ?_
      rotate_left 1
      focus (refine Or.inl ⟨by rfl, ?_⟩; intro wq hSw; go_simp; try with_reducible rfl)
      try simp only [Act.put, List.setIfInBounds_toArray, List.set_cons_zero, List.set_cons_succ]
      refine wpAnyH_take (i := 2) (oi := { dst := some _, op := _, type := _, pos := _, after := _, guard := _ }) (v := ?_) rfl (by kernel_rfl) (by kernel_rfl) (by kernel_rfl) (fun _ _ _ h => h) ?_ (by with_reducible assumption) ?_
      rotate_left 1
      focus (refine Or.inl ⟨by rfl, ?_⟩; intro wq hSw; go_simp; try with_reducible rfl)
      try simp only [Act.put, List.setIfInBounds_toArray, List.set_cons_zero, List.set_cons_succ]
      refine wpAnyH_take (i := 3) (oi := { dst := some _, op := _, type := _, pos := _, after := _, guard := _ }) (v := ?_) rfl (by kernel_rfl) (by kernel_rfl) (by kernel_rfl) (fun _ _ _ h => h) ?_ (by with_reducible assumption) ?_
      rotate_left 1
      focus (refine Or.inl ⟨by rfl, ?_⟩; intro wq hSw; go_simp; try with_reducible rfl)
      try simp only [Act.put, List.setIfInBounds_toArray, List.set_cons_zero, List.set_cons_succ]
      refine wpAnyH_take (i := 4) (oi := { dst := some _, op := _, type := _, pos := _, after := _, guard := _ }) (v := ?_) rfl (by kernel_rfl) (by kernel_rfl) (by kernel_rfl) (fun _ _ _ h => h) ?_ (by with_reducible assumption) ?_
      rotate_left 1
      focus (refine Or.inl ⟨by rfl, ?_⟩; intro wq hSw; have q0 := hSw.2; go_simp; try with_reducible rfl)
      try simp only [Act.put, List.setIfInBounds_toArray, List.set_cons_zero, List.set_cons_succ]
      refine wpAnyH_ready (rs := [5]) (by kernel_rfl) (by simp) ?_
      refine AllReadyH.cons rfl (fun KA hKA => ?_) AllReadyH.nil
      go_simp
      refine (specEventAt_any _ de qu wi ti qa bu le pb pc pj pt nw la ea E0.length ec ka K.length kc tu fa F.length fc ra R.length rc tk ac dr EJ K F R x HIS.out).mono ?_
      rintro e v1 ⟨rfl, hb⟩
      have HS1 := Lib.hid (show Box v1 w.heap.size 32 [.int .i64 de, .int .i64 qu, .int .i64 wi, .int .i64 ti, .int .i64 qa, .int .i64 bu, .int .i64 le, .int .i64 pb, .int .i64 pc, .int .i64 pj, .int .i64 pt, .int .i64 nw, .int .i64 la, .slice ea E0.length ec, .slice ka K.length kc, .int .i64 tu, .slice fa F.length fc, .slice ra R.length rc, .int .i64 tk, .int .i64 ac, .int .i64 dr] ∧ v1.cell? ⟨ib, io + j, none⟩ = some (.int .i64 x) from ⟨hHeld.1.below hb, (hb.cell (p := ⟨ib, io + j, none⟩) (World.block_lt_of_cell? _ _ hHeld.2)).trans hHeld.2⟩)
      replace HO := Lib.hid (HO.out.below hb)
      replace HR := Lib.hid (HR.out.below hb)
      replace HG := Lib.hid (HG.out.trans (grown_of_below hb _))
      replace HII := Lib.hid (iis_grown HII.out (grown_of_below hb none) (fun _ _ _ => by simp))
      clear hb hHeld HIS
      dsimp only
      refine hKA.out _ _ (HS1.out) (fun hHeld => ?_)
      clear hKA
      try simp only [Act.put, List.setIfInBounds_toArray, List.set_cons_zero, List.set_cons_succ]
      refine wpAnyH_take (i := 6) (oi := { dst := some _, op := _, type := _, pos := _, after := _, guard := _ }) (v := ?_) rfl (by kernel_rfl) (by kernel_rfl) (by kernel_rfl) (fun _ _ _ h => h) ?_ (by with_reducible assumption) ?_
      rotate_left 1
      focus (refine Or.inl ⟨by rfl, ?_⟩; intro wq hSw; go_simp; try with_reducible rfl)
      try simp only [Act.put, List.setIfInBounds_toArray, List.set_cons_zero, List.set_cons_succ]
      refine wpAnyH_done (by kernel_rfl) ?_ _
      replace HA := Lib.hid HS1.out.1
      clear HS1
      rcases at_range x EJ with ⟨hm, hb1⟩ | ⟨k, hk, hm, hb1⟩
      · have HBK := Lib.hid hb1
        rw [hm]
        clear hb1 hm
        go_wp2_with fail
        go_roundw
        case rel => exact ⟨j + 1, by omega, by go_num, HG, HA, HR, HII, Lib.hid (by rw [HSN.out, HBK.out]; exact HO.out)⟩
        case measure => simp [intOf]; omega
      · have HBK := Lib.hid hb1
        have HKL := Lib.hid hk
        rw [hm]
        have hkm : k ≤ 1048576 := by have := HLE.out; have := HEL.out; omega
        clear hb1 hm
        obtain ⟨i, d, c, bd, at_, t, r, n, s, hlk⟩ : ∃ i d c bd at_ t r n s, EJ[k] = ⟨i, d, c, bd, at_, t, r, n, s⟩ := ⟨_, _, _, _, _, _, _, _, _, rfl⟩
        have HLK := Lib.hid hlk
        obtain ⟨g, hgg⟩ := own_some HOW.out (by have := HLE.out; omega)
        obtain ⟨rfl, hgw⟩ := hgg
        have HGW := Lib.hid hgw
        have hc9 := eown_cellx HO.out.evO k hk hlk
        have HC9 := Lib.hid hc9
        have hdk : decide ((0 : Int) ≤ (k : Int)) = true := decide_eq_true (Int.natCast_nonneg k)
        have hkE : (k : Int) < (E0.length : Int) := by have := HLE.out; omega
        clear hlk hgw hc9
        go_upto_region 6 with fail
        have HQ := Lib.hid (below_drew' (Below.refl v1.heap.size v1))
        have HC13 := Lib.hid (show v1.drew.cell? ⟨w.heap.size, 13, none⟩ = some (.slice (some ⟨g, 0, none⟩) E0.length ec) from (HA.out.below HQ.out).cell 13 _ rfl)
        refine wp_region_held_drew (S := fun w' => w'.cell? ⟨w.heap.size, 13, none⟩ = some (.slice (some ⟨g, 0, none⟩) E0.length ec)) (by kernel_rfl) HC13.out (fun hHeld => ?_)
        replace HO := Lib.hid (HO.out.below HQ.out)
        replace HA := Lib.hid (HA.out.below HQ.out)
        replace HR := Lib.hid (HR.out.below HQ.out)
        replace HG := Lib.hid (HG.out.trans (grown_of_below HQ.out _))
        replace HII := Lib.hid (iis_grown HII.out (grown_of_below HQ.out none) (fun _ _ _ => by simp))
        replace HC9 := Lib.hid (c9_below HC9.out HQ.out)
        clear HQ
        refine wpAnyH_take (i := 0) (oi := { dst := some _, op := _, type := _, pos := _, after := _, guard := _ }) (v := ?_) rfl (by kernel_rfl) (by kernel_rfl) (by kernel_rfl) (fun _ _ _ h => h) ?_ (by with_reducible assumption) ?_
        rotate_left 1
        focus (refine Or.inl ⟨by rfl, ?_⟩; intro wq hSw; go_simp; try with_reducible rfl)
        try simp only [Act.put, List.setIfInBounds_toArray, List.set_cons_zero, List.set_cons_succ]
        refine wpAnyH_take (i := 1) (oi := { dst := some _, op := _, type := _, pos := _, after := _, guard := _ }) (v := ?_) rfl (by kernel_rfl) (by kernel_rfl) (by kernel_rfl) (fun _ _ _ h => h) ?_ (by with_reducible assumption) ?_
        rotate_left 1
        focus (refine Or.inl ⟨by rfl, ?_⟩; intro wq hSw; have q0 := hSw; go_simp; try with_reducible rfl)
        try simp only [Act.put, List.setIfInBounds_toArray, List.set_cons_zero, List.set_cons_succ]
        refine wpAnyH_take (i := 2) (oi := { dst := some _, op := _, type := _, pos := _, after := _, guard := _ }) (v := ?_) rfl (by kernel_rfl) (by kernel_rfl) (by kernel_rfl) (fun _ _ _ h => h) ?_ (by with_reducible assumption) ?_
        rotate_left 1
        focus (refine Or.inl ⟨by rfl, ?_⟩; intro wq hSw; go_simp; try with_reducible rfl)
        try simp only [Act.put, List.setIfInBounds_toArray, List.set_cons_zero, List.set_cons_succ]
        refine wpAnyH_take (i := 3) (oi := { dst := some _, op := _, type := _, pos := _, after := _, guard := _ }) (v := ?_) rfl (by kernel_rfl) (by kernel_rfl) (by kernel_rfl) (fun _ _ _ h => h) ?_ (by with_reducible assumption) ?_
        rotate_left 1
        focus (refine Or.inl ⟨by rfl, ?_⟩; intro wq hSw; go_simp; try with_reducible rfl)
        try simp only [Act.put, List.setIfInBounds_toArray, List.set_cons_zero, List.set_cons_succ]
        refine wpAnyH_take (i := 4) (oi := { dst := some _, op := _, type := _, pos := _, after := _, guard := _ }) (v := ?_) rfl (by kernel_rfl) (by kernel_rfl) (by kernel_rfl) (fun _ _ _ h => h) ?_ (by with_reducible assumption) ?_
        rotate_left 1
        focus (refine Or.inl ⟨by rfl, ?_⟩; intro wq hSw; have q0 := hSw; go_simp; try with_reducible rfl)
        try simp only [Act.put, List.setIfInBounds_toArray, List.set_cons_zero, List.set_cons_succ]
        refine wpAnyH_take (i := 5) (oi := { dst := some _, op := _, type := _, pos := _, after := _, guard := _ }) (v := ?_) rfl (by kernel_rfl) (by kernel_rfl) (by kernel_rfl) (fun _ _ _ h => h) ?_ (by with_reducible assumption) ?_
        rotate_left 1
        focus (refine Or.inl ⟨by rfl, ?_⟩; intro wq hSw; go_simp; try with_reducible rfl)
        try simp only [Act.put, List.setIfInBounds_toArray, List.set_cons_zero, List.set_cons_succ]
        refine wpAnyH_take (i := 6) (oi := { dst := some _, op := _, type := _, pos := _, after := _, guard := _ }) (v := ?_) rfl (by kernel_rfl) (by kernel_rfl) (by kernel_rfl) (fun _ _ _ h => h) ?_ (by with_reducible assumption) ?_
        rotate_left 1
        focus (refine Or.inl ⟨by rfl, ?_⟩; intro wq hSw; go_simp; try with_reducible rfl)
        try simp only [Act.put, List.setIfInBounds_toArray, List.set_cons_zero, List.set_cons_succ]
        refine wpAnyH_ready (rs := [7]) (by kernel_rfl) (by simp) ?_
        refine AllReadyH.cons rfl (fun KA hKA => ?_) AllReadyH.nil
        obtain ⟨c0, c1, c2, c3, c4, c5, c6, c7, c8⟩ := HC9.out
        go_simp
        refine hKA.out _ _ (HC13.out) (fun hHeld => ?_)
        clear hKA
        try simp only [Act.put, List.setIfInBounds_toArray, List.set_cons_zero, List.set_cons_succ]
        clear c0 c1 c2 c3 c4 c5 c6 c7 c8 hHeld
        refine wpAnyH_ready (rs := [8]) (by kernel_rfl) (by simp) ?_
        refine AllReadyH.cons rfl (fun KA hKA => ?_) AllReadyH.nil
        go_simp
        refine (Evt.specBack_any i d c bd at_ t r n s _).mono ?_
        rintro e v2 ⟨rfl, hb⟩
        have HC13b := Lib.hid (show v2.cell? ⟨w.heap.size, 13, none⟩ = some (.slice (some ⟨g, 0, none⟩) E0.length ec) from (hb.cell (p := ⟨w.heap.size, 13, none⟩) (World.block_lt_of_cell? _ _ HC13.out)).trans HC13.out)
        replace HA := Lib.hid (HA.out.below hb)
        replace HO := Lib.hid (HO.out.below hb)
        replace HR := Lib.hid (HR.out.below hb)
        replace HG := Lib.hid (HG.out.trans (grown_of_below hb _))
        replace HII := Lib.hid (iis_grown HII.out (grown_of_below hb none) (fun _ _ _ => by simp))
        clear hb hHeld HC9
        dsimp only
        refine hKA.out _ _ (HC13b.out) (fun hHeld => ?_)
        clear hKA
        try simp only [Act.put, List.setIfInBounds_toArray, List.set_cons_zero, List.set_cons_succ]
        refine wpAnyH_take (i := 9) (oi := { dst := some _, op := _, type := _, pos := _, after := _, guard := _ }) (v := ?_) rfl (by kernel_rfl) (by kernel_rfl) (by kernel_rfl) (fun _ _ _ h => h) ?_ (by with_reducible assumption) ?_
        rotate_left 1
        focus (refine Or.inl ⟨by rfl, ?_⟩; intro wq hSw; go_simp; try with_reducible rfl)
        try simp only [Act.put, List.setIfInBounds_toArray, List.set_cons_zero, List.set_cons_succ]
        refine wpAnyH_ready (rs := [10]) (by kernel_rfl) (by simp) ?_
        refine AllReadyH.cons rfl (fun KA hKA => ?_) AllReadyH.nil
        have HEV := Lib.hid HO.out.evO
        obtain ⟨f0, f1, f2, f3, f4, f5, f6, f7, f8⟩ : v2.frozen? ⟨g, k * 9, none⟩ = false ∧ v2.frozen? ⟨g, k * 9 + 1, none⟩ = false ∧ v2.frozen? ⟨g, k * 9 + 2, none⟩ = false ∧ v2.frozen? ⟨g, k * 9 + 3, none⟩ = false ∧ v2.frozen? ⟨g, k * 9 + 4, none⟩ = false ∧ v2.frozen? ⟨g, k * 9 + 5, none⟩ = false ∧ v2.frozen? ⟨g, k * 9 + 6, none⟩ = false ∧ v2.frozen? ⟨g, k * 9 + 7, none⟩ = false ∧ v2.frozen? ⟨g, k * 9 + 8, none⟩ = false := ⟨HEV.out.frozenAt _, HEV.out.frozenAt _, HEV.out.frozenAt _, HEV.out.frozenAt _, HEV.out.frozenAt _, HEV.out.frozenAt _, HEV.out.frozenAt _, HEV.out.frozenAt _, HEV.out.frozenAt _⟩
        obtain ⟨z0, z1, z2, z3, z4, z5, z6, z7, z8⟩ := eown_cells HEV.out k HKL.out
        have hst := eown_set HEV.out k HKL.out (bkE ((EJ)[k]'HKL.out)) i d c bd at_ t r n (Evt.bk s) (bkE_of HLK.out)
        go_simp
        clear f0 f1 f2 f3 f4 f5 f6 f7 f8 z0 z1 z2 z3 z4 z5 z6 z7 z8
        obtain ⟨v3, hV⟩ : ∃ V, V = (((((((((v2.setCell ⟨g, k * 9, none⟩ (.int .i64 i)).setCell ⟨g, k * 9 + 1, none⟩ (.int .i64 d)).setCell ⟨g, k * 9 + 2, none⟩ (.int .i64 c)).setCell ⟨g, k * 9 + 3, none⟩ (.string bd)).setCell ⟨g, k * 9 + 4, none⟩ (.int .i64 at_)).setCell ⟨g, k * 9 + 5, none⟩ (.int .i64 t)).setCell ⟨g, k * 9 + 6, none⟩ (.int .i64 r)).setCell ⟨g, k * 9 + 7, none⟩ (.int .i64 n)).setCell ⟨g, k * 9 + 8, none⟩ (.int .i64 (Evt.bk s))) := ⟨_, rfl⟩
        rw [← hV] at hst ⊢
        clear hV
        have hg := hst.2
        have HC13c := Lib.hid (show v3.cell? ⟨w.heap.size, 13, none⟩ = some (.slice (some ⟨g, 0, none⟩) E0.length ec) from hg.cell (a := ⟨w.heap.size, 13, none⟩) HC13b.out (by have := HGW.out; simp; omega))
        replace HA := Lib.hid (HA.out.grown hg (by have := HGW.out; simp; omega))
        replace HR := Lib.hid (HR.out.grown hg (by have := HGW.out; simp; omega))
        replace HO := Lib.hid (HO.out.setEv hg hst.1 (.inl rfl) (by rw [← HBK.out]; exact body_back HO.out.body))
        replace HG := Lib.hid (HG.out.trans hg)
        replace HII := Lib.hid (iis_grown HII.out hg HSP.out)
        clear hst hg HEV
        refine hKA.out _ _ (HC13c.out) (fun hHeld => ?_)
        clear hKA
        try simp only [Act.put, List.setIfInBounds_toArray, List.set_cons_zero, List.set_cons_succ]
        refine wpAnyH_done (by kernel_rfl) ?_ _
        go_wp2_with fail
        go_roundw
        case rel => exact ⟨j + 1, by omega, by go_num, HG, HA, HR, HII, Lib.hid (by rw [HSN.out, HBK.out]; exact HO.out)⟩
        case measure => simp [intOf]; omega
    · have hjn : j = ids.length := by have := HIL.out; omega
      have HTK := Lib.hid (show ids.take j = ids by rw [hjn, List.take_length])
      rw [HTK.out] at HO
      clear HTK hjn
      go_wp2_with (first | (refine wpList_load_box rfl _ 32 rfl rfl HA.out _ Tryz.underlying32 sizeGate ?_) | (refine wpList_store_box rfl _ _ 32 rfl rfl [.int .i64 de, .int .i64 qu, .int .i64 wi, .int .i64 ti, .int .i64 qa, .int .i64 bu, .int .i64 le, .int .i64 pb, .int .i64 pc, .int .i64 pj, .int .i64 pt, .int .i64 nw, .int .i64 la, .slice ea E0.length ec, .slice ka K.length kc, .int .i64 tu, .slice fa F.length fc, .slice ra R.length rc, .int .i64 tk, .int .i64 ac, .int .i64 dr] rfl HR.out sizeGate rfl rfl ?_; intro V hXb hgV hlV) | fail)
      exact bodyPost_ret (v := .agg #[.int .i64 de, .int .i64 qu, .int .i64 wi, .int .i64 ti, .int .i64 qa, .int .i64 bu, .int .i64 le, .int .i64 pb, .int .i64 pc, .int .i64 pj, .int .i64 pt, .int .i64 nw, .int .i64 la, .slice ea E0.length ec, .slice ka K.length kc, .int .i64 tu, .slice fa F.length fc, .slice ra R.length rc, .int .i64 tk, .int .i64 ac, .int .i64 dr]) (results_box _ Tryz.results65 rfl hXb _ Tryz.underlying32 sizeGate) rfl ⟨rfl, HO.out.notnew HOO.out hgV (by omega), grown_new HG.out hgV (by omega)⟩

end Go.Proofs.YtkndpkingmemoaaGreatDoor.Gat
namespace Go.Proofs.YtkndpkingmemoaaGreatDoor.Kit
open Go.RowKit
set_option linter.unusedVariables false

/-- 'append(s, u)' of one element of one cell, onto a slice that the call owns: the row grows by u; what lay below B stays. -/
theorem append_one {P : Program} {ops : Array Oper} {rest : List Oper} {o : Oper} {a : Act} {Q : Exit → Act → World → Prop} (hgd : o.guard = none) (s x : Operand) (t : TypeId)
    (ho : o.op = .call { callee := .builtin .append, args := #[s, x], argTypes := #[t, t] })
    (e : TypeId) (i : TypeInfo) (z : Value) (bytes : Nat) (ht : P.underlying t = some (.slice e)) (hi : P.info? e = some i) (hz : i.zero = some z)
    (hsize : i.size = 1) (hby : i.bytes = bytes) (hzs : z.cells.size = 1) (hb16 : bytes ≤ 16)
    {B : Nat} {w0 w : World} {v : Value} {n : Nat} {xs : List Value} {u : Value} (hs : a.eval s = v) (hown : w.ownsRow B e 1 v n xs)
    (hx : a.eval x = .slice (some ⟨w.heap.size, 0, none⟩) 1 1) (hu : u.oneCell' = true) (hn : n < 1000000000000) (hbel : Below B w0 w) (hB : B ≤ w0.heap.size)
    (h : ∀ v' w', w'.ownsRow B e 1 v' (n + 1) (xs ++ [u]) → Below B w0 w' → w.heap.size + 1 ≤ w'.heap.size → w.grownBy w' v.ownBlock → wpList P ops Q rest (a.put o.dst v') w') :
    wpList P ops Q (o :: rest) a (w.alloc (.cells #[u] e)) := by
  have hsz := hbel.size
  have h1 : (n + 1) * bytes ≤ (n + 1) * 16 := Nat.mul_le_mul_left _ hb16
  refine wpList_append_own _ hgd s x t ho B e i z 1 bytes ht hi hz hsize hby hzs (by decide) v n xs hs (hown.alloc _) ⟨w.heap.size, 0, none⟩ 1 1 [u] hx rfl (cell_one_new _ _ _) (by intro u' hu'; simp at hu'; subst hu'; exact hu) (by unfold maxLen; omega) (by omega) (by simp; omega) ?_
  intro v' w' h2 h3 _
  have hs3 := h3.size
  simp at hs3
  refine h v' w' h2 ?_ hs3 ?_
  · refine (hbel.alloc (by omega) _).grown h3 (by simp; omega) (fun k hk => ?_)
    exact (hown.lt k hk).1
  · exact ⟨h3.os, h3.tape, h3.output, by omega, fun k hk hne => (h3.block k (by simp; omega) hne).trans (Below.heap_alloc _ _ _ hk)⟩

/-- 'string(b)' of a row of bytes that the call owns. -/
theorem convert_row {P : Program} {w : World} {B : Nat} {v : Value} {n : Nat} {l : List UInt8} (src dst e : TypeId) (hs : P.underlying src = some (.slice e)) (he : P.underlying e = some (.int .u8)) (hd : P.underlying dst = some .string)
    (h : w.ownsRow B e 1 v n (Lib.byteCells l)) : (convert src dst v).run P w = .ok (.string ⟨l.toArray⟩) w := by
  have hlen : l.length = n := by have := h.1; simpa [Lib.byteCells] using this
  subst hlen
  rcases h.2 with ⟨rfl, h0⟩ | ⟨g, cap, cur, rfl, h1, h2, h3, h4, h5, h6⟩
  · rw [run_convert_bytes_string w src dst e none 0 0 hs he hd]
    have : l = [] := List.eq_nil_of_length_eq_zero h0
    subst this
    rfl
  · exact run_convert_bytes_back w src dst e ⟨g, 0, none⟩ cap l hs he hd (fun j hj => h.cells (g := g) rfl j _ (by simp [Lib.byteCells, hj]))

theorem byteCells_snoc (l : List UInt8) (c : UInt8) : Lib.byteCells l ++ [Value.int .u8 (c.toNat : Int)] = Lib.byteCells (l ++ [c]) := by simp [Lib.byteCells]
end Go.Proofs.YtkndpkingmemoaaGreatDoor.Kit
