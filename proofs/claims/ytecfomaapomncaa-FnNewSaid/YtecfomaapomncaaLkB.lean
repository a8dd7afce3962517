/-
  Two boxes of links; the walks of the copies of links.
-/
import Derived.Test.YtecfomaapomncaaLkS
import Derived.Lib.SliceRun
namespace Go.Proofs.Ytecfomaapomncaa.Lnk
open Go.RowKit
set_option linter.unusedVariables false

/-- a link that was handed back: new, and of the call's own -/
def LinkEnd (w w' : World) (up : Bool) (ep sq : Int) (l : List Y) (e : Ending) : Prop :=
  (∃ a cap, e = .returned (.agg #[.bool up, .int .i64 ep, .int .i64 sq, .slice a l.length cap]) ∧ YOwn w.heap.size w' 96 (.slice a l.length cap) l) ∧ Below w.heap.size w w'
/-- a slice of flies that was handed back -/
def SliceEnd (w w' : World) (l : List Y) (e : Ending) : Prop :=
  (∃ a cap, e = .returned (.slice a l.length cap) ∧ YOwn w.heap.size w' 96 (.slice a l.length cap) l) ∧ Below w.heap.size w w'

/-- the argument's box, and the box r of the answer -/
structure Fr2 (W w : World) (r : Nat) (up : Bool) (ep sq : Int) (a : Option Addr) (len cap : Nat) (l : List Y) : Prop where
  low : Below W.heap.size W w
  b0 : B4 w W.heap.size up ep sq (.slice a len cap)
  b1 : B4 w r false 0 0 (.slice none 0 0)
  f0 : Fr w W.heap.size
  f1 : Fr w r
  yis : YIs W.heap.size w a len l
  lt : W.heap.size < r
section
variable {W w w' : World} {r : Nat} {up : Bool} {ep sq : Int} {a : Option Addr} {len cap : Nat} {l l' : List Y}
theorem Fr2.two (w : World) (up : Bool) (ep sq : Int) (a : Option Addr) (len cap : Nat) (l : List Y) (h : YIs w.heap.size w a len l) (t1 t2 : TypeId) :
    Fr2 w ((w.alloc (.cells #[.bool up, .int .i64 ep, .int .i64 sq, .slice a len cap] t1)).alloc (.cells #[.bool false, .int .i64 0, .int .i64 0, .slice none 0 0] t2)) (w.heap.size + 1) up ep sq a len cap l := by
  have hb1 := bOne w (.cells #[.bool up, .int .i64 ep, .int .i64 sq, .slice a len cap] t1)
  have hb2 := bOne (w.alloc (.cells #[.bool up, .int .i64 ep, .int .i64 sq, .slice a len cap] t1)) (.cells #[.bool false, .int .i64 0, .int .i64 0, .slice none 0 0] t2)
  have hs : (w.alloc (.cells #[.bool up, .int .i64 ep, .int .i64 sq, .slice a len cap] t1)).heap.size = w.heap.size + 1 := by simp
  refine ⟨bAfter hb1 hb2 (by simp), (B4.new w _ _ _ _ t1).below hb2, ?_, (Fr.new w _ t1).low hb2 (by simp), ?_, (h.below hb1).below (hb2.mono (by simp)), by omega⟩
  · have := B4.new (w.alloc (.cells #[.bool up, .int .i64 ep, .int .i64 sq, .slice a len cap] t1)) false 0 0 (.slice none 0 0) t2
    rwa [hs] at this
  · have := Fr.new (w.alloc (.cells #[.bool up, .int .i64 ep, .int .i64 sq, .slice a len cap] t1)) #[.bool false, .int .i64 0, .int .i64 0, .slice none 0 0] t2
    rwa [hs] at this
theorem Fr2.step (h : Fr2 W w r up ep sq a len cap l) (hb : Below w.heap.size w w') : Fr2 W w' r up ep sq a len cap l :=
  ⟨low_after h.low hb, h.b0.below hb, h.b1.below hb, h.f0.low hb h.b0.lt, h.f1.low hb h.b1.lt, h.yis.below (hb.mono h.low.size), h.lt⟩
/-- what is written lies behind both boxes -/
theorem Fr2.step' (h : Fr2 W w r up ep sq a len cap l) (hb : Below (r + 1) w w') : Fr2 W w' r up ep sq a len cap l :=
  ⟨h.low.trans (hb.mono (by have := h.lt; omega)), h.b0.low hb (by have := h.lt; omega), h.b1.low hb (by omega), h.f0.low hb (by have := h.lt; omega), h.f1.low hb (by omega), h.yis.below (hb.mono (by have := h.lt; omega)), h.lt⟩
theorem Fr2.here (h : Fr2 W w r up ep sq a len cap l) : YIs w.heap.size w a len l := h.yis.mono h.low.size
theorem Fr2.cells (h : Fr2 W w r up ep sq a len cap l) : (w.cell? ⟨W.heap.size, 0, none⟩ = some (.bool up) ∧ w.cell? ⟨W.heap.size, 1, none⟩ = some (.int .i64 ep) ∧ w.cell? ⟨W.heap.size, 2, none⟩ = some (.int .i64 sq) ∧ w.cell? ⟨W.heap.size, 3, none⟩ = some (.slice a len cap)) ∧
    (w.cell? ⟨r, 0, none⟩ = some (.bool false) ∧ w.cell? ⟨r, 1, none⟩ = some (.int .i64 0) ∧ w.cell? ⟨r, 2, none⟩ = some (.int .i64 0) ∧ w.cell? ⟨r, 3, none⟩ = some (.slice none 0 0)) ∧
    (w.frozen? ⟨r, 0, none⟩ = false ∧ w.frozen? ⟨r, 1, none⟩ = false ∧ w.frozen? ⟨r, 2, none⟩ = false ∧ w.frozen? ⟨r, 3, none⟩ = false) ∧ w.frozen? ⟨W.heap.size, 3, none⟩ = false :=
  ⟨⟨h.b0.c0, h.b0.c1, h.b0.c2, h.b0.c3⟩, ⟨h.b1.c0, h.b1.c1, h.b1.c2, h.b1.c3⟩, ⟨h.f1 0, h.f1 1, h.f1 2, h.f1 3⟩, h.f0 3⟩
/-- behind the four stores into the answer's box -/
theorem Fr2.end_ (h : Fr2 W w r up ep sq a len cap l) {B : Nat} {v : Value} (ho : YOwn B w 96 v l') (hB : r < B) (x0 x1 x2 x3 : Value) :
    YOwn W.heap.size ((((w.setCell ⟨r, 0, none⟩ x0).setCell ⟨r, 1, none⟩ x1).setCell ⟨r, 2, none⟩ x2).setCell ⟨r, 3, none⟩ x3) 96 v l' ∧ Below W.heap.size W ((((w.setCell ⟨r, 0, none⟩ x0).setCell ⟨r, 1, none⟩ x1).setCell ⟨r, 2, none⟩ x2).setCell ⟨r, 3, none⟩ x3) := by
  have hl := h.lt
  exact ⟨((((ho.setLow hB _).setLow hB _).setLow hB _).setLow hB _).base (by omega), ((((h.low.setCell (by simp; omega) _).setCell (by simp; omega) _).setCell (by simp; omega) _).setCell (by simp; omega) _)⟩
theorem Fr2.endI (h : Fr2 W w r up ep sq a len cap l) {B : Nat} {v : Value} {xs : List Int} (ho : IOwn B w v xs) (hB : r < B) (x0 x1 x2 x3 : Value) :
    IOwn W.heap.size ((((w.setCell ⟨r, 0, none⟩ x0).setCell ⟨r, 1, none⟩ x1).setCell ⟨r, 2, none⟩ x2).setCell ⟨r, 3, none⟩ x3) v xs := by
  have hl := h.lt
  exact ((((ho.setLow hB _).setLow hB _).setLow hB _).setLow hB _).base (by omega)
end

end Go.Proofs.Ytecfomaapomncaa.Lnk
