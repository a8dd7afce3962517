/-
  Two boxes of links; the walks of the copies of links.
-/
import Derived.Test.YtjfhdelphfgojaaLkS
import Derived.Lib.SliceRun
namespace Go.Proofs.Ytjfhdelphfgojaa.Lnk
open Go.RowKit
set_option linter.unusedVariables false

/-- a link that was handed back: new, and of the call's own -/
def LinkEnd (w w' : World) (up : Bool) (ep sq : Int) (l : List Y) (e : Ending) : Prop :=
  (∃ a cap, e = .returned (.agg #[.bool up, .int .i64 ep, .int .i64 sq, .slice a l.length cap]) ∧ YOwn w.heap.size w' 40 (.slice a l.length cap) l) ∧ Below w.heap.size w w'
/-- a slice of flies that was handed back -/
def SliceEnd (w w' : World) (l : List Y) (e : Ending) : Prop :=
  (∃ a cap, e = .returned (.slice a l.length cap) ∧ YOwn w.heap.size w' 40 (.slice a l.length cap) l) ∧ Below w.heap.size w w'

/-- the argument's box, and the box r of the answer -/
structure Fr2 (W w : World) (r : Nat) (up : Bool) (ep sq : Int) (a : Option Addr) (len cap : Nat) (l : List Y) : Prop where
  low : Below W.heap.size W w
  b0 : B4 w W.heap.size up ep sq (.slice a len cap)
  b1 : B4 w r false 0 0 (.slice none 0 0)
  f0 : Fr w W.heap.size
  f1 : Fr w r
  yis : YIs W.heap.size w a len l
  lt : W.heap.size < r
section
variable {W w w' : World} {r : Nat} {up : Bool} {ep sq : Int} {a : Option Addr} {len cap : Nat} {l l' : List Y}
theorem Fr2.two (w : World) (up : Bool) (ep sq : Int) (a : Option Addr) (len cap : Nat) (l : List Y) (h : YIs w.heap.size w a len l) (t1 t2 : TypeId) :
    Fr2 w ((w.alloc (.cells #[.bool up, .int .i64 ep, .int .i64 sq, .slice a len cap] t1)).alloc (.cells #[.bool false, .int .i64 0, .int .i64 0, .slice none 0 0] t2)) (w.heap.size + 1) up ep sq a len cap l := by
  have hb1 := bOne w (.cells #[.bool up, .int .i64 ep, .int .i64 sq, .slice a len cap] t1)
  have hb2 := bOne (w.alloc (.cells #[.bool up, .int .i64 ep, .int .i64 sq, .slice a len cap] t1)) (.cells #[.bool false, .int .i64 0, .int .i64 0, .slice none 0 0] t2)
  have hs : (w.alloc (.cells #[.bool up, .int .i64 ep, .int .i64 sq, .slice a len cap] t1)).heap.size = w.heap.size + 1 := by simp
  refine ⟨bAfter hb1 hb2 (by simp), (B4.new w _ _ _ _ t1).below hb2, ?_, (Fr.new w _ t1).low hb2 (by simp), ?_, (h.below hb1).below (hb2.mono (by simp)), by omega⟩
  · have := B4.new (w.alloc (.cells #[.bool up, .int .i64 ep, .int .i64 sq, .slice a len cap] t1)) false 0 0 (.slice none 0 0) t2
    rwa [hs] at this
  · have := Fr.new (w.alloc (.cells #[.bool up, .int .i64 ep, .int .i64 sq, .slice a len cap] t1)) #[.bool false, .int .i64 0, .int .i64 0, .slice none 0 0] t2
    rwa [hs] at this
theorem Fr2.step (h : Fr2 W w r up ep sq a len cap l) (hb : Below w.heap.size w w') : Fr2 W w' r up ep sq a len cap l :=
  ⟨low_after h.low hb, h.b0.below hb, h.b1.below hb, h.f0.low hb h.b0.lt, h.f1.low hb h.b1.lt, h.yis.below (hb.mono h.low.size), h.lt⟩
/-- what is written lies behind both boxes -/
theorem Fr2.step' (h : Fr2 W w r up ep sq a len cap l) (hb : Below (r + 1) w w') : Fr2 W w' r up ep sq a len cap l :=
  ⟨h.low.trans (hb.mono (by have := h.lt; omega)), h.b0.low hb (by have := h.lt; omega), h.b1.low hb (by omega), h.f0.low hb (by have := h.lt; omega), h.f1.low hb (by omega), h.yis.below (hb.mono (by have := h.lt; omega)), h.lt⟩
theorem Fr2.here (h : Fr2 W w r up ep sq a len cap l) : YIs w.heap.size w a len l := h.yis.mono h.low.size
theorem Fr2.cells (h : Fr2 W w r up ep sq a len cap l) : (w.cell? ⟨W.heap.size, 0, none⟩ = some (.bool up) ∧ w.cell? ⟨W.heap.size, 1, none⟩ = some (.int .i64 ep) ∧ w.cell? ⟨W.heap.size, 2, none⟩ = some (.int .i64 sq) ∧ w.cell? ⟨W.heap.size, 3, none⟩ = some (.slice a len cap)) ∧
    (w.cell? ⟨r, 0, none⟩ = some (.bool false) ∧ w.cell? ⟨r, 1, none⟩ = some (.int .i64 0) ∧ w.cell? ⟨r, 2, none⟩ = some (.int .i64 0) ∧ w.cell? ⟨r, 3, none⟩ = some (.slice none 0 0)) ∧
    (w.frozen? ⟨r, 0, none⟩ = false ∧ w.frozen? ⟨r, 1, none⟩ = false ∧ w.frozen? ⟨r, 2, none⟩ = false ∧ w.frozen? ⟨r, 3, none⟩ = false) ∧ w.frozen? ⟨W.heap.size, 3, none⟩ = false :=
  ⟨⟨h.b0.c0, h.b0.c1, h.b0.c2, h.b0.c3⟩, ⟨h.b1.c0, h.b1.c1, h.b1.c2, h.b1.c3⟩, ⟨h.f1 0, h.f1 1, h.f1 2, h.f1 3⟩, h.f0 3⟩
/-- behind the four stores into the answer's box -/
theorem Fr2.end_ (h : Fr2 W w r up ep sq a len cap l) {B : Nat} {v : Value} (ho : YOwn B w 40 v l') (hB : r < B) (x0 x1 x2 x3 : Value) :
    YOwn W.heap.size ((((w.setCell ⟨r, 0, none⟩ x0).setCell ⟨r, 1, none⟩ x1).setCell ⟨r, 2, none⟩ x2).setCell ⟨r, 3, none⟩ x3) 40 v l' ∧ Below W.heap.size W ((((w.setCell ⟨r, 0, none⟩ x0).setCell ⟨r, 1, none⟩ x1).setCell ⟨r, 2, none⟩ x2).setCell ⟨r, 3, none⟩ x3) := by
  have hl := h.lt
  exact ⟨((((ho.setLow hB _).setLow hB _).setLow hB _).setLow hB _).base (by omega), ((((h.low.setCell (by simp; omega) _).setCell (by simp; omega) _).setCell (by simp; omega) _).setCell (by simp; omega) _)⟩
theorem Fr2.endI (h : Fr2 W w r up ep sq a len cap l) {B : Nat} {v : Value} {xs : List Int} (ho : IOwn B w v xs) (hB : r < B) (x0 x1 x2 x3 : Value) :
    IOwn W.heap.size ((((w.setCell ⟨r, 0, none⟩ x0).setCell ⟨r, 1, none⟩ x1).setCell ⟨r, 2, none⟩ x2).setCell ⟨r, 3, none⟩ x3) v xs := by
  have hl := h.lt
  exact ((((ho.setLow hB _).setLow hB _).setLow hB _).setLow hB _).base (by omega)
end

set_option maxRecDepth 100000 in
set_option maxHeartbeats 1000000 in
theorem clone_walk (w : World) (a : Option Addr) (len cap : Nat) (l : List Y) (h : YIs w.heap.size w a len l) (hlen : len ≤ 1048576) :
    Calls Try.prog 71 #[.slice a len cap] w fun e w' => SliceEnd w w' l e := by
  have HL := Lib.hid h.hlen
  have hnil : ∀ (w : World) (a : Option Addr) (n c : Nat), (binOp .eql 24 (.slice a n c) (.slice none 0 0)).run Try.prog w = .ok (.bool a.isNone) w := fun w a n c => Lib.run_eql_slice_nil w _ _ a n c 0 0 Try.underlying24
  cases a with
  | none =>
    obtain ⟨rfl, rfl⟩ := h.none_nil
    clear h
    go_enter Try.func71, Try.ntmps71
    go_wp2_with fail
    go_ret
    exact ⟨⟨none, 0, rfl, YOwn.nil _ _ _⟩, Below.refl _ _⟩
  | some ad =>
    have HT := Lib.hid (h.here (bOne w (.cells #[] 40)))
    have HE := Lib.hid (ylit w 40)
    clear h
    go_enter Try.func71, Try.ntmps71
    go_wp2_with (first | (at_builtin; refine wpList_append_run rfl _ _ 24 rfl _ _ rfl rfl (app_yis Try.underlying24 HE.out HT.out (fun e => by cases e) (by simp; omega) (by simp)) ?_; intro v' w6 happ6) | fail)
    obtain ⟨a', c', rfl⟩ := YOwn.shape (l := l) happ6.1
    go_ret
    exact ⟨⟨a', c', rfl, happ6.1⟩, happ6.below (bOne w _) (Nat.le_refl _) (fun k e => by cases e; exact Nat.le_refl _)⟩

set_option maxRecDepth 100000 in
set_option maxHeartbeats 1000000 in
theorem copyLink_any (w : World) (a : Option Addr) (len cap : Nat) (up : Bool) (ep sq : Int) (l : List Y) (h : YIs w.heap.size w a len l) (hlen : len ≤ 1048576) :
    Calls Try.prog 53 #[.agg #[.bool up, .int .i64 ep, .int .i64 sq, .slice a len cap]] w fun e w' => LinkEnd w w' up ep sq l e := by
  have HF := Lib.hid (Fr2.two w up ep sq a len cap l h 26 26)
  clear h
  go_enter Try.func53, Try.ntmps53
  go_wp2_with fail
  refine (clone_walk _ a len cap l HF.out.here hlen).mono ?_
  rintro e w3 ⟨⟨a', cap', rfl, ho⟩, hb3⟩
  have HF3 := Lib.hid (HF.out.step hb3)
  have HO := Lib.hid ho
  have hz : w.heap.size + 2 ≤ w3.heap.size := by have := hb3.size; simp at this; omega
  clear hb3 ho
  obtain ⟨⟨c0, c1, c2, c3⟩, ⟨d0, d1, d2, d3⟩, ⟨f0, f1, f2, f3⟩, g3⟩ := HF3.out.cells
  go_wp2_with fail
  refine bodyPost_ret (v := .agg #[.bool up, .int .i64 ep, .int .i64 sq, .slice a' l.length cap']) (by simp [results, Try.results53, go_sem, d0, d1, d2, d3]) rfl ⟨⟨a', cap', rfl, ?_⟩, ?_⟩
  · exact (((((HO.out.setLow (by simp; omega) _).setLow (by simp) _).setLow (by simp) _).setLow (by simp) _).setLow (by simp) _).base (by simp; omega)
  · exact ((((HF3.out.low.setCell (by simp) _).setCell (by simp) _).setCell (by simp) _).setCell (by simp) _).setCell (by simp) _

set_option maxRecDepth 100000 in
set_option maxHeartbeats 1000000 in
theorem specCopy_any (w : World) (a : Option Addr) (len cap : Nat) (up : Bool) (ep sq : Int) (l : List Y) (h : YIs w.heap.size w a len l) (hlen : len ≤ 1048576) (hcap : a = none → cap = 0) :
    Calls Try.prog 54 #[.agg #[.bool up, .int .i64 ep, .int .i64 sq, .slice a len cap]] w fun e w' => LinkEnd w w' up ep sq l e := by
  have hf := Fr2.two w up ep sq a len cap l h 26 26
  have HF := Lib.hid hf
  have hs0 : ((w.alloc (.cells #[.bool up, .int .i64 ep, .int .i64 sq, .slice a len cap] 26)).alloc (.cells #[.bool false, .int .i64 0, .int .i64 0, .slice none 0 0] 26)).heap.size = w.heap.size + 1 + 1 := by simp
  have hb := bOne ((w.alloc (.cells #[.bool up, .int .i64 ep, .int .i64 sq, .slice a len cap] 26)).alloc (.cells #[.bool false, .int .i64 0, .int .i64 0, .slice none 0 0] 26)) (.cells #[] 40)
  have HB := Lib.hid hb
  have HT := Lib.hid (hf.here.here hb)
  have hE := ylit ((w.alloc (.cells #[.bool up, .int .i64 ep, .int .i64 sq, .slice a len cap] 26)).alloc (.cells #[.bool false, .int .i64 0, .int .i64 0, .slice none 0 0] 26)) 40
  rw [hs0] at hE
  have HE := Lib.hid hE
  have HS0 := Lib.hid hs0
  clear h hf hE hb hs0
  go_enter Try.func54, Try.ntmps54
  go_wp2_with (first
    | (at_builtin; refine wpList_append_run rfl _ _ 24 rfl _ _ rfl rfl (app_yis Try.underlying24 HE.out HT.out hcap (by simp; omega) (by simp)) ?_; intro v' w6 happ6
       obtain ⟨a', cap', rfl⟩ := YOwn.shape (l := l) happ6.1
       have hb6 := happ6.below HB.out (Nat.le_refl _) (fun k e => by cases e; exact Nat.le_of_eq HS0.out)
       have HF6 := Lib.hid (HF.out.step hb6)
       have HO6 := Lib.hid (show YOwn (w.heap.size + 1 + 1) w6 40 (.slice a' l.length cap') l from happ6.1)
       clear happ6 hb6 HF HB HT HE
       obtain ⟨⟨c0, c1, c2, c3⟩, ⟨d0, d1, d2, d3⟩, ⟨f0, f1, f2, f3⟩, g3⟩ := HF6.out.cells)
    | fail)
  refine bodyPost_ret (v := .agg #[.bool up, .int .i64 ep, .int .i64 sq, .slice a' l.length cap']) (by simp [results, Try.results54, go_sem, d0, d1, d2, d3]) rfl ⟨⟨a', cap', rfl, ?_⟩, ?_⟩
  · exact (((((HO6.out.setLow (by simp; omega) _).setLow (by simp) _).setLow (by simp) _).setLow (by simp) _).setLow (by simp) _).base (by omega)
  · exact ((((HF6.out.low.setCell (by simp) _).setCell (by simp) _).setCell (by simp) _).setCell (by simp) _).setCell (by simp) _
end Go.Proofs.Ytjfhdelphfgojaa.Lnk
