/-
  The walks of DropTimer, SetTimer and TurnWheel.
-/
import Derived.Test.YtkoliacbajpijaaDoorImpW
namespace Go.Proofs.YtkoliacbajpijaaDoor.Whl
open Go.RowKit Go.Maps
set_option linter.unusedVariables false

/-- Where a function over a wheel stands: its argument's box, and its answer's box at r. -/
structure Fr (w w' : World) (a : Option Addr) (len cap : Nat) (now : Int) (l : List T) (r : Nat) : Prop where
  b0 : Bx w' w.heap.size (.int .i64 now) (.slice a len cap)
  b1 : Bx w' r (.int .i64 0) (.slice none 0 0)
  f1 : Bf w' r
  t : TIs w.heap.size w' a len l
  low : Below w.heap.size w w'
  hr : w.heap.size < r
section
variable {w w1 w2 : World} {a : Option Addr} {len cap : Nat} {now : Int} {l : List T} {r : Nat}
theorem Fr.low' {B : Nat} (h : Fr w w1 a len cap now l r) (hb : Below B w1 w2) (hB : r < B) : Fr w w2 a len cap now l r :=
  ⟨h.b0.low hb (by have := h.hr; omega), h.b1.low hb hB, h.f1.low hb hB, h.t.below (hb.mono (by have := h.hr; omega)), h.low.trans (hb.mono (by have := h.hr; omega)), h.hr⟩
theorem Fr.step (h : Fr w w1 a len cap now l r) (hb : Below w1.heap.size w1 w2) : Fr w w2 a len cap now l r := h.low' hb h.b1.lt
theorem Fr.cells (h : Fr w w1 a len cap now l r) : w1.cell? ⟨w.heap.size, 0, none⟩ = some (.int .i64 now) ∧ w1.cell? ⟨w.heap.size, 1, none⟩ = some (.slice a len cap) ∧
    w1.cell? ⟨r, 0, none⟩ = some (.int .i64 0) ∧ w1.cell? ⟨r, 1, none⟩ = some (.slice none 0 0) ∧ w1.frozen? ⟨r, 0, none⟩ = false ∧ w1.frozen? ⟨r, 1, none⟩ = false :=
  ⟨h.b0.c0, h.b0.c1, h.b1.c0, h.b1.c1, h.f1.f0, h.f1.f1⟩
theorem Fr.tis (h : Fr w w1 a len cap now l r) : TIs w1.heap.size w1 a len l := h.t.mono h.low.size
theorem Fr.end_ {B : Nat} {v : Value} {S : List T} (h : Fr w w1 a len cap now l r) (hb : Below B w1 w2) (hB : r < B) (hB1 : B ≤ w1.heap.size) (ho : TOwn w1.heap.size w2 28 v S) (x y : Value) :
    TOwn w.heap.size ((w2.setCell ⟨r, 0, none⟩ x).setCell ⟨r, 1, none⟩ y) 28 v S ∧ Below w.heap.size w ((w2.setCell ⟨r, 0, none⟩ x).setCell ⟨r, 1, none⟩ y) := by
  have h1 := h.hr
  have h2 := h.b1.lt
  refine ⟨((ho.setLow (by simpa using h2) _).setLow (by simpa using h2) _).base (by omega), ?_⟩
  exact ((h.low.trans (hb.mono (by omega))).setCell (by show w.heap.size ≤ r; omega) _).setCell (by show w.heap.size ≤ r; omega) _
end
theorem fr_two (w : World) (a : Option Addr) (len cap : Nat) (now : Int) (l : List T) (h : TIs w.heap.size w a len l) :
    Fr w ((w.alloc (.cells #[.int .i64 now, .slice a len cap] 26)).alloc (.cells #[.int .i64 0, .slice none 0 0] 26)) a len cap now l (w.heap.size + 1) := by
  have hb0 : Below w.heap.size w ((w.alloc (.cells #[.int .i64 now, .slice a len cap] 26)).alloc (.cells #[.int .i64 0, .slice none 0 0] 26)) := ((Below.refl _ _).alloc (Nat.le_refl _) _).alloc (by simp) _
  refine ⟨(Bx.new w _ _ _).below (bOne _ _), ?_, ?_, h.below hb0, hb0, by omega⟩
  · have := Bx.new (w.alloc (.cells #[.int .i64 now, .slice a len cap] 26)) (.int .i64 0) (.slice none 0 0) 26
    simpa using this
  · have := Bf.new (w.alloc (.cells #[.int .i64 now, .slice a len cap] 26)) #[.int .i64 0, .slice none 0 0] 26
    simpa using this

/-- the list that DropTimer leaves -/
noncomputable def drpR (now : Int) (l : List T) (id : Int) : List T := if wokB now l then dropL l id else l
theorem drpR_ok {now : Int} {l : List T} (h : WOk now l) (id : Int) : drpR now l id = dropL l id := by unfold drpR; rw [wokB_true h]; rfl
theorem drpR_not {now : Int} {l : List T} (h : ¬ WOk now l) (id : Int) : drpR now l id = l := by unfold drpR; rw [wokB_false h]; rfl
theorem meas_bd {now : Int} {L : List T} (hv : Liv now L) (h : L.length ≤ 100) : meas now L ≤ 600 := by
  have := meas_le (now := now) (L := L) (fun t ht => hv.lev4 ht)
  omega

set_option maxRecDepth 100000 in
set_option maxHeartbeats 1000000 in
theorem dropTimer_any (w : World) (a : Option Addr) (len cap : Nat) (now : Int) (l : List T) (id : Int) (h : TIs w.heap.size w a len l) (hlen : len ≤ 1048576) (hid : (Lit.int .i64 id).wf = true) (hT : TabD w) :
    Calls Tryd.prog 18 #[.agg #[.int .i64 now, .slice a len cap], .int .i64 id] w fun e w' => WheelEnd w.heap.size w w' now (drpR now l id) e := by
  have HF := Lib.hid (fr_two w a len cap now l h)
  have HT := Lib.hid hT
  have hT0 := hT.lt
  clear h hT
  go_enter Tryd.func18, Tryd.ntmps18
  go_wp2_with fail
  refine (wheelOk_any _ a len cap now l HF.out.tis).mono ?_
  rintro e w2 ⟨rfl, hb2⟩
  have HF2 := Lib.hid (HF.out.step hb2)
  clear hb2 HF
  obtain ⟨c0, c1, c2, c3, f2, f3⟩ := HF2.out.cells
  by_cases hok : WOk now l
  · rw [wokB_true hok]
    have HDR := Lib.hid (drpR_ok hok id)
    have HOK := Lib.hid hok
    clear hok
    go_wp2_with fail
    refine (fill_walk w2 a len cap now l HF2.out.tis HOK.out).mono ?_
    rintro e w3 ⟨b, bm, f, v, rfl, hfi⟩
    have HFI := Lib.hid hfi
    have HF3 := Lib.hid (HF2.out.step hfi.below)
    clear hfi c0 c1 c2 c3 f2 f3
    go_wp2_with fail
    have hl60 := HOK.out.len
    have hats : AtsIs (putAll (.map []) l) l := by have := AtsIs.fill (L := l) [] _ AtsIs.start (by simpa using HOK.out.ids); simpa using this
    refine (drop_walk w3 w2.heap.size b bm now id f v l.length _ l HFI.out.st HFI.out.fit HOK.out.liv hats hid (by omega) (by omega) HFI.out.hb HFI.out.hm).mono ?_
    rintro e w4 ⟨rfl, f4, v4, n4, D4, hst4, hfit4, hats4, hn4, hb4⟩
    have HF4 := Lib.hid (HF3.out.low' hb4 HF2.out.b1.lt)
    have HST4 := Lib.hid hst4
    have HFIT4 := Lib.hid hfit4
    have hdl : (dropL l id).length ≤ l.length := List.length_filter_le _ _
    have HE := Lib.hid (fun wx (e : wx = w4) => empty_walk w4 w2.heap.size b bm now f4 v4 n4 D4 (dropL l id) (dropL l id) hst4 hfit4 (HOK.out.liv.drop id) (by have := meas_bd (HOK.out.liv.drop id) (by omega); omega) (by omega) (HOK.out.drop id).srt (fun t => Iff.rfl)
      (HT.out.below HF4.out.low hT0) (by have := HF2.out.low.size; omega) HFI.out.hb HFI.out.hm)
    clear hb4 hst4 hfit4 hats4 hn4 hats
    go_wp2_with fail
    refine (HE.out w4 rfl).mono ?_
    rintro e w5 ⟨⟨a', cap', rfl, ho⟩, hb5⟩
    have HF5 := Lib.hid (HF4.out.low' hb5 HF2.out.b1.lt)
    have HEND := Lib.hid (fun x y => HF4.out.end_ hb5 HF2.out.b1.lt HST4.out.hB ho x y)
    clear ho hb5
    obtain ⟨c0, c1, c2, c3, f2, f3⟩ := HF5.out.cells
    go_wp2_with fail
    exact bodyPost_ret (v := .agg #[.int .i64 now, .slice a' (dropL l id).length cap']) (by simp [results, Tryd.results18, go_sem, c2, c3]) rfl (by rw [HDR.out]; exact ⟨⟨a', cap', rfl, (HEND.out _ _).1⟩, (HEND.out _ _).2⟩)
  · rw [wokB_false hok]
    have HDR := Lib.hid (drpR_not hok id)
    clear hok
    go_wp2_with fail
    refine (copyWheel_walk w2 a len cap now l HF2.out.tis hlen).mono ?_
    rintro e w3 ⟨⟨a', cap', rfl, ho⟩, hb3⟩
    have HF3 := Lib.hid (HF2.out.step hb3)
    have HEND := Lib.hid (fun x y => HF2.out.end_ hb3 HF2.out.b1.lt (Nat.le_refl _) ho x y)
    clear ho hb3 c0 c1 c2 c3 f2 f3
    obtain ⟨c0, c1, c2, c3, f2, f3⟩ := HF3.out.cells
    go_wp2_with fail
    exact bodyPost_ret (v := .agg #[.int .i64 now, .slice a' l.length cap']) (by simp [results, Tryd.results18, go_sem, c2, c3]) rfl (by rw [HDR.out]; exact ⟨⟨a', cap', rfl, (HEND.out _ _).1⟩, (HEND.out _ _).2⟩)
end Go.Proofs.YtkoliacbajpijaaDoor.Whl
