/-
  The walk of TurnWheel.
-/
import Derived.Test.YtkoliacbajpijaaDoorIoqW
import Derived.Test.YtkoliacbajpijaaDoorKit
namespace Go.Proofs.YtkoliacbajpijaaDoor.Whl
open Go.RowKit Go.Maps
open Go.Proofs.YtkoliacbajpijaaDoor.Kit (append_one)
set_option linter.unusedVariables false

theorem infoInt : (Tryd.prog.info? 3).map (fun i => (i.zero, i.size, i.bytes)) = some (some (.int .i64 0), 1, 8) := by kernel_rfl
/-- a slice of ints of the call's own -/
def IOwn (B : Nat) (w : World) (v : Value) (xs : List Int) : Prop := w.ownsRow B 3 1 v xs.length (xs.map fun x => .int .i64 x)
theorem IOwn.shape {B : Nat} {w : World} {v : Value} {xs : List Int} (h : IOwn B w v xs) : ∃ a cap, v = .slice a xs.length cap := by
  rcases h.2 with ⟨e, h0⟩ | ⟨g, c, cur, e, _⟩
  · exact ⟨none, 0, by rw [e, h0]⟩
  · exact ⟨_, _, e⟩
theorem IOwn.below {B : Nat} {w w' : World} {v : Value} {xs : List Int} (h : IOwn B w v xs) (hb : Below w.heap.size w w') : IOwn B w' v xs :=
  World.ownsRow.kept h (grown_of_below hb none) (by
    cases hv : v.ownBlock with
    | none => exact .inl rfl
    | some k => exact .inr (by simp))
theorem IOwn.grown {B : Nat} {w w' : World} {v : Value} {xs : List Int} {r : Option Nat} (h : IOwn B w v xs) (hg : w.grownBy w' r) (hne : v.ownBlock = none ∨ v.ownBlock ≠ r) : IOwn B w' v xs := World.ownsRow.kept h hg hne
theorem IOwn.base {B B' : Nat} {w : World} {v : Value} {xs : List Int} (h : IOwn B w v xs) (hB : B' ≤ B) : IOwn B' w v xs := by
  refine ⟨h.1, ?_⟩
  rcases h.2 with e | ⟨g, c, cur, e, hb, r⟩
  · exact .inl e
  · exact .inr ⟨g, c, cur, e, by omega, r⟩
theorem IOwn.setLow {B : Nat} {w : World} {v : Value} {xs : List Int} (h : IOwn B w v xs) {p : Addr} (hp : p.block < B) (u : Value) : IOwn B (w.setCell p u) v xs := by
  refine World.ownsRow.kept h (row := some p.block) ⟨rfl, rfl, rfl, by simp, fun k _ hk => heap_setCell_other w p k u (fun e => hk (by simp [e]))⟩ ?_
  cases hv : v.ownBlock with
  | none => exact .inl rfl
  | some k =>
    have := (World.ownsRow.lt h k hv).1
    exact .inr (fun e => by injection e with e; omega)
theorem IOwn.same {B : Nat} {w w' : World} {v : Value} {xs : List Int} (h : IOwn B w v xs) (hb : ∀ k, v.ownBlock = some k → w'.heap[k]? = w.heap[k]?) : IOwn B w' v xs := by
  refine ⟨h.1, ?_⟩
  rcases h.2 with e | ⟨g, cap, cur, e, hlt, hg, r⟩
  · exact .inl e
  · exact .inr ⟨g, cap, cur, e, hlt, (hb g (by rw [e]; rfl)).trans hg, r⟩
/-- whether TurnWheel turns, and what it leaves and tells -/
noncomputable def trnB (now : Int) (l : List T) (to : Int) : Bool := wokB now l && decide (now ≤ to) && decide (to ≤ 1000000000)
noncomputable def trnN (now : Int) (l : List T) (to : Int) : Int := if trnB now l to then to else now
noncomputable def trnR (now : Int) (l : List T) (to : Int) : List T := if trnB now l to then restL l to else l
noncomputable def trnI (now : Int) (l : List T) (to : Int) : List Int := if trnB now l to then (dueL l to).map Prod.snd else []
/-- what TurnWheel hands back -/
def TurnWEnd (B : Nat) (w w' : World) (now : Int) (S : List T) (ids : List Int) (e : Ending) : Prop :=
  (∃ a cap vi, e = .returned (.tuple #[.agg #[.int .i64 now, .slice a S.length cap], vi]) ∧ TOwn w.heap.size w' 28 (.slice a S.length cap) S ∧ IOwn w.heap.size w' vi ids) ∧ Below B w w'
theorem trn_no {B : Nat} {w w' : World} {now to : Int} {l : List T} {e : Ending} (h : trnB now l to = false) (hx : TurnWEnd B w w' now l [] e) : TurnWEnd B w w' (trnN now l to) (trnR now l to) (trnI now l to) e := by
  unfold trnN trnR trnI
  rw [h]
  exact hx
theorem trn_yes {B : Nat} {w w' : World} {now to : Int} {l : List T} {e : Ending} (h : trnB now l to = true) (hx : TurnWEnd B w w' to (restL l to) ((dueL l to).map Prod.snd) e) : TurnWEnd B w w' (trnN now l to) (trnR now l to) (trnI now l to) e := by
  unfold trnN trnR trnI
  rw [h]
  exact hx
theorem trnB_no1 {now : Int} {l : List T} (to : Int) (h : ¬ WOk now l) : trnB now l to = false := by unfold trnB; rw [wokB_false h]; rfl
theorem trnB_no2 {now to : Int} {l : List T} (h : to < now) : trnB now l to = false := by unfold trnB; rw [decide_eq_false (by omega)]; simp
theorem trnB_no3 {now to : Int} {l : List T} (h : 1000000000 < to) : trnB now l to = false := by unfold trnB; rw [decide_eq_false (p := to ≤ 1000000000) (by omega)]; simp
theorem trnB_yes {now to : Int} {l : List T} (h : WOk now l) (h1 : now ≤ to) (h2 : to ≤ 1000000000) : trnB now l to = true := by unfold trnB; rw [wokB_true h]; simp [h1, h2]

set_option maxRecDepth 100000 in
set_option maxHeartbeats 2000000 in
theorem turnWheel_any (w : World) (a : Option Addr) (len cap : Nat) (now : Int) (l : List T) (to : Int) (h : TIs w.heap.size w a len l) (hlen : len ≤ 1048576) (hT : TabD w) :
    Calls Tryd.prog 25 #[.agg #[.int .i64 now, .slice a len cap], .int .i64 to] w fun e w' => TurnWEnd w.heap.size w w' (trnN now l to) (trnR now l to) (trnI now l to) e := by
  obtain ⟨i0, hi, hz0, hz1, hz2⟩ := info_parts infoInt
  have HF := Lib.hid (fr_two w a len cap now l h)
  have HT := Lib.hid hT
  have hT0 := hT.lt
  clear h hT
  go_enter Tryd.func25, Tryd.ntmps25
  go_wp2_with fail
  refine (wheelOk_any _ a len cap now l HF.out.tis).mono ?_
  rintro e w2 ⟨rfl, hb2⟩
  have HF2 := Lib.hid (HF.out.step hb2)
  clear hb2 HF
  obtain ⟨c0, c1, c2, c3, f2, f3⟩ := HF2.out.cells
  by_cases hok : WOk now l
  · rw [wokB_true hok]
    have HOK := Lib.hid hok
    clear hok
    by_cases hto : to < now
    · have HDR := Lib.hid (trnB_no2 (l := l) hto)
      go_wp2_with fail
      refine (copyWheel_walk w2 a len cap now l HF2.out.tis hlen).mono ?_
      rintro e w3 ⟨⟨a', cap', rfl, ho⟩, hb3⟩
      have HF3 := Lib.hid (HF2.out.step hb3)
      have HEND := Lib.hid (fun x y => HF2.out.end_ hb3 HF2.out.b1.lt (Nat.le_refl _) ho x y)
      clear ho hb3 c0 c1 c2 c3 f2 f3
      obtain ⟨c0, c1, c2, c3, f2, f3⟩ := HF3.out.cells
      go_wp2_with fail
      exact bodyPost_ret (v := .tuple #[.agg #[.int .i64 now, .slice a' l.length cap'], .slice none 0 0]) (by simp [results, Tryd.results25, go_sem, c2, c3]) rfl (trn_no HDR.out ⟨⟨a', cap', _, rfl, (HEND.out _ _).1, World.ownsRow_nil _ _ _ _⟩, (HEND.out _ _).2⟩)
    by_cases hto1 : 1000000000 < to
    · have HDR := Lib.hid (trnB_no3 (now := now) (l := l) hto1)
      go_wp2_with fail
      refine (copyWheel_walk w2 a len cap now l HF2.out.tis hlen).mono ?_
      rintro e w3 ⟨⟨a', cap', rfl, ho⟩, hb3⟩
      have HF3 := Lib.hid (HF2.out.step hb3)
      have HEND := Lib.hid (fun x y => HF2.out.end_ hb3 HF2.out.b1.lt (Nat.le_refl _) ho x y)
      clear ho hb3 c0 c1 c2 c3 f2 f3
      obtain ⟨c0, c1, c2, c3, f2, f3⟩ := HF3.out.cells
      go_wp2_with fail
      exact bodyPost_ret (v := .tuple #[.agg #[.int .i64 now, .slice a' l.length cap'], .slice none 0 0]) (by simp [results, Tryd.results25, go_sem, c2, c3]) rfl (trn_no HDR.out ⟨⟨a', cap', _, rfl, (HEND.out _ _).1, World.ownsRow_nil _ _ _ _⟩, (HEND.out _ _).2⟩)
    have HDR := Lib.hid (trnB_yes (to := to) HOK.out (by omega) (by omega))
    have HTO := Lib.hid (show now ≤ to ∧ to ≤ 1000000000 by omega)
    have hd1 : decide (to < now) = false := by simp; omega
    have hd2 : decide (1000000000 < to) = false := by simp; omega
    clear hto hto1
    go_wp2_with fail
    refine (fill_walk w2 a len cap now l HF2.out.tis HOK.out).mono ?_
    rintro e w3 ⟨b, bm, f, v, rfl, hfi⟩
    have HFI := Lib.hid hfi
    have HF3 := Lib.hid (HF2.out.step hfi.below)
    clear hfi c0 c1 c2 c3 f2 f3 hd1 hd2
    obtain ⟨c0, c1, c2, c3, f2, f3⟩ := HF3.out.cells
    go_wp2_with fail
    have hl60 := HOK.out.len
    refine (turn_walk w3 w2.heap.size b bm now to f v l.length _ l HFI.out.st HFI.out.fit HOK.out.liv HTO.out.1 HTO.out.2 (by have := meas_bd HOK.out.liv (by omega); omega) (by omega) (HT.out.below HF3.out.low hT0) (by have := HF2.out.low.size; omega) HFI.out.hb HFI.out.hm).mono ?_
    rintro e w4 ⟨f4, v4, n4, D4, L4, due, vd, rfl, hI, hlate⟩
    obtain ⟨hdue, hL4⟩ := hI.isDue.end_ hlate HOK.out.srt (fun t => Iff.rfl)
    have hb4 : Below w2.heap.size w3 w4 := hI.kp.low HFI.out.hb HFI.out.hm (fun i j hi hj g hg => (HFI.out.st.vlt hi hj hg).1) HFI.out.st.hB
    have HF4 := Lib.hid (HF3.out.low' hb4 HF2.out.b1.lt)
    obtain ⟨a4, cap4, rfl⟩ := hI.own.shape
    have hti := hI.own.is.2
    have hdl : due.length ≤ 60 := by
      have h1 : (dueL l to).length ≤ l.length := List.length_filter_le _ _
      rw [hdue]
      omega
    have HDUE := Lib.hid hdue
    have HL4 := Lib.hid hL4
    have HI := Lib.hid hI
    have HTI := Lib.hid hti
    clear hdue hL4 hI hti hlate hb4 c0 c1 c2 c3 f2 f3
    obtain ⟨dl, hdle⟩ : ∃ dl, dl = due.length := ⟨_, rfl⟩
    have HDL := Lib.hid hdle
    rw [← hdle] at hdl ⊢
    clear hdle
    go_wp2_with fail
    go_loopw [7, 31] (fun vi i wr => ∃ j : Nat, j ≤ dl ∧ i = .int .i64 j ∧ Hid (IOwn w4.heap.size wr vi ((due.take j).map Prod.snd)) ∧ Hid (Below w4.heap.size w4 wr)) (fun _ i _ => dl - (intOf i).toNat)
    case atStart => exact ⟨0, by omega, rfl, Lib.hid (World.ownsRow_nil _ _ _ _), Lib.hid (Below.refl _ _)⟩
    case round =>
      obtain ⟨j, hj, rfl, HO, HB⟩ := hrel
      by_cases hlt : (j : Int) < (dl : Int)
      · have hjd : j < due.length := by have := HDL.out; omega
        obtain ⟨b', off, rfl, hbw, e0, e1⟩ := (HTI.out.below HB.out).cell j hjd
        obtain ⟨p, hp⟩ : ∃ p, p = due[j].1 := ⟨_, rfl⟩
        obtain ⟨q, hq⟩ : ∃ q, q = due[j].2 := ⟨_, rfl⟩
        have HQ := Lib.hid hq
        rw [← hp] at e0
        rw [← hq] at e1
        clear hp hq
        have hown : (wr.alloc (.cells #[.int .i64 p, .int .i64 q] 28)).ownsRow w4.heap.size 3 1 u7 j (((due.take j).map Prod.snd).map fun x => .int .i64 x) := by
          have := World.ownsRow.alloc HO.out (.cells #[.int .i64 p, .int .i64 q] 28)
          simpa [Nat.min_eq_left (show j ≤ due.length by omega)] using this
        have hbel : Below w4.heap.size w4 (wr.alloc (.cells #[.int .i64 p, .int .i64 q] 28)) := HB.out.alloc HB.out.size _
        have HOWN := Lib.hid hown
        have HBEL := Lib.hid hbel
        have HSZ := Lib.hid (show (wr.alloc (.cells #[.int .i64 p, .int .i64 q] 28)).heap.size = wr.heap.size + 1 by simp)
        clear hown hbel
        go_wp2_with (first | (at_builtin; refine append_one rfl _ _ 40 rfl 3 i0 _ 8 Tryd.underlying40 hi hz0 hz1 hz2 rfl (by decide) rfl HOWN.out (by rw [HSZ.out]; rfl) rfl (by omega) HBEL.out (Nat.le_refl _) ?_; intro v' w' hown' hbel' _ _; have HO' := Lib.hid hown'; have HB' := Lib.hid hbel'; clear hown' hbel') | fail)
        go_roundw
        case rel =>
          refine ⟨j + 1, by omega, by go_num, Lib.hid ?_, HB'⟩
          have h1 := HO'.out
          have h2 : ((due.take (j + 1)).map Prod.snd) = ((due.take j).map Prod.snd) ++ [q] := by
            rw [List.take_succ_eq_append_getElem hjd, HQ.out, List.map_append, List.map_cons, List.map_nil]
          rw [h2]
          unfold IOwn
          simpa [Nat.min_eq_left (show j ≤ due.length by omega)] using h1
        case measure => simp [intOf]; omega
      · have hjd : j = due.length := by have := HDL.out; omega
        have hO := HO.out
        rw [hjd, List.take_length, HDUE.out] at hO
        have hst := HI.out.st.below HB.out
        have HE := Lib.hid (empty_walk' wr w2.heap.size b bm to f4 v4 n4 D4 L4 (restL l to) hst HI.out.fit HI.out.liv HI.out.bd (by have := HI.out.len; omega) (HOK.out.rest HTO.out.1 HTO.out.2).srt (fun t => (HL4.out t).symm)
          ((HT.out.below HF4.out.low hT0).below HB.out (by have := HF4.out.low.size; omega)) (by have := HF2.out.low.size; omega) HFI.out.hb HFI.out.hm)
        have HFR := Lib.hid (HF4.out.step HB.out)
        have HO2 := Lib.hid hO
        clear hO hst hjd
        go_wp2_with fail
        refine HE.out.mono ?_
        rintro e w7 ⟨⟨⟨a', cap', rfl, ho⟩, hb7⟩, hkf⟩
        have HF7 := Lib.hid (HFR.out.low' hb7 HF2.out.b1.lt)
        have HEND := Lib.hid (fun x y => HFR.out.end_ hb7 HF2.out.b1.lt (HI.out.st.below HB.out).hB ho x y)
        have hiw : IOwn w4.heap.size w7 u7 ((dueL l to).map Prod.snd) := HO2.out.same (fun k hk => hkf k (World.ownsRow.lt HO2.out k hk).2 (HI.out.st.far_new (World.ownsRow.lt HO2.out k hk).1))
        have HIW := Lib.hid hiw
        clear ho hb7 hkf hiw
        obtain ⟨c0, c1, c2, c3, f2, f3⟩ := HF7.out.cells
        go_wp2_with fail
        exact bodyPost_ret (v := .tuple #[.agg #[.int .i64 to, .slice a' (restL l to).length cap'], u7]) (by simp [results, Tryd.results25, go_sem, c2, c3]) rfl (trn_yes HDR.out ⟨⟨a', cap', _, rfl, (HEND.out _ _).1, ((HIW.out.setLow (by have := HF4.out.b1.lt; exact this) _).setLow (by have := HF4.out.b1.lt; exact this) _).base HF4.out.low.size⟩, (HEND.out _ _).2⟩)
  · have HDR := Lib.hid (trnB_no1 to hok)
    rw [wokB_false hok]
    clear hok
    go_wp2_with fail
    refine (copyWheel_walk w2 a len cap now l HF2.out.tis hlen).mono ?_
    rintro e w3 ⟨⟨a', cap', rfl, ho⟩, hb3⟩
    have HF3 := Lib.hid (HF2.out.step hb3)
    have HEND := Lib.hid (fun x y => HF2.out.end_ hb3 HF2.out.b1.lt (Nat.le_refl _) ho x y)
    clear ho hb3 c0 c1 c2 c3 f2 f3
    obtain ⟨c0, c1, c2, c3, f2, f3⟩ := HF3.out.cells
    go_wp2_with fail
    exact bodyPost_ret (v := .tuple #[.agg #[.int .i64 now, .slice a' l.length cap'], .slice none 0 0]) (by simp [results, Tryd.results25, go_sem, c2, c3]) rfl (trn_no HDR.out ⟨⟨a', cap', _, rfl, (HEND.out _ _).1, World.ownsRow_nil _ _ _ _⟩, (HEND.out _ _).2⟩)
end Go.Proofs.YtkoliacbajpijaaDoor.Whl
