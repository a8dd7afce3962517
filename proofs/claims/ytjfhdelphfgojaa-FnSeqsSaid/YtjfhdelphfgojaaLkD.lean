/-
  The walks of the program's closures, of Forget and Late.
-/
import Derived.Test.YtjfhdelphfgojaaLkC
import Derived.Shelf.Abstract
namespace Go.Proofs.Ytjfhdelphfgojaa.Lnk
open Go.RowKit
set_option linter.unusedVariables false

theorem enters_S : ∀ (args : Array Value) (w1 : World), (callFunc 58 args).run Try.prog w1 = .ok (.enter 58 args) w1 := enters_of Try.func58 (by kernel_rfl) rfl
theorem enters_I : ∀ (args : Array Value) (w1 : World), (callFunc 59 args).run Try.prog w1 = .ok (.enter 59 args) w1 := enters_of Try.func59 (by kernel_rfl) rfl
theorem enters_U : ∀ (args : Array Value) (w1 : World), (callFunc 61 args).run Try.prog w1 = .ok (.enter 61 args) w1 := enters_of Try.func61 (by kernel_rfl) rfl

theorem call_S (b : Nat) (s : Int) (w : World) (x y z : Int) (h : w.cell? ⟨b, 0, none⟩ = some (.int .i64 s)) (hlt : b < w.heap.size) :
    Calls Try.prog 58 #[.agg #[.int .i64 x, .int .i64 y, .int .i64 z], .pointer (some ⟨b, 0, none⟩)] w fun e w2 => e = .returned (.bool (isS s (x, y, z))) ∧ Below w.heap.size w w2 := by
  have he : isS s (x, y, z) = (x == s) := by unfold isS; by_cases h : x = s <;> simp [h]
  rw [he]
  go_enter Try.func58, Try.ntmps58
  go_wp2
  go_ret
  exact ⟨rfl, bOne _ _⟩
theorem call_I (b : Nat) (s : Int) (w : World) (x y z : Int) (h : w.cell? ⟨b, 0, none⟩ = some (.int .i64 s)) (hlt : b < w.heap.size) :
    Calls Try.prog 59 #[.agg #[.int .i64 x, .int .i64 y, .int .i64 z], .pointer (some ⟨b, 0, none⟩)] w fun e w2 => e = .returned (.bool (isI s (x, y, z))) ∧ Below w.heap.size w w2 := by
  have he : isI s (x, y, z) = (y == s) := by unfold isI; by_cases h : y = s <;> simp [h]
  rw [he]
  go_enter Try.func59, Try.ntmps59
  go_wp2
  go_ret
  exact ⟨rfl, bOne _ _⟩
theorem call_U (b : Nat) (s : Int) (w : World) (x y z : Int) (h : w.cell? ⟨b, 0, none⟩ = some (.int .i64 s)) (hlt : b < w.heap.size) :
    Calls Try.prog 61 #[.agg #[.int .i64 x, .int .i64 y, .int .i64 z], .pointer (some ⟨b, 0, none⟩)] w fun e w2 => e = .returned (.bool (isU s (x, y, z))) ∧ Below w.heap.size w w2 := by
  have he : isU s (x, y, z) = decide (z ≤ s) := rfl
  rw [he]
  go_enter Try.func61, Try.ntmps61
  go_wp2
  go_ret
  exact ⟨rfl, bOne _ _⟩

/-- a cell of an int -/
structure Bi (w : World) (b : Nat) (s : Int) : Prop where
  c : w.cell? ⟨b, 0, none⟩ = some (.int .i64 s)
  lt : b < w.heap.size
theorem Bi.below {w w' : World} {b : Nat} {s : Int} (h : Bi w b s) (hb : Below w.heap.size w w') : Bi w' b s := ⟨(hb.cell (p := ⟨b, 0, none⟩) h.lt).trans h.c, Nat.lt_of_lt_of_le h.lt hb.size⟩
theorem Fr2.three (w : World) (up : Bool) (ep sq s : Int) (a : Option Addr) (len cap : Nat) (l : List Y) (h : YIs w.heap.size w a len l) (t1 t2 t3 : TypeId) :
    Fr2 w (((w.alloc (.cells #[.bool up, .int .i64 ep, .int .i64 sq, .slice a len cap] t1)).alloc (.cells #[.int .i64 s] t3)).alloc (.cells #[.bool false, .int .i64 0, .int .i64 0, .slice none 0 0] t2)) (w.heap.size + 1 + 1) up ep sq a len cap l ∧
      Bi (((w.alloc (.cells #[.bool up, .int .i64 ep, .int .i64 sq, .slice a len cap] t1)).alloc (.cells #[.int .i64 s] t3)).alloc (.cells #[.bool false, .int .i64 0, .int .i64 0, .slice none 0 0] t2)) (w.heap.size + 1) s := by
  have hb1 := bOne w (.cells #[.bool up, .int .i64 ep, .int .i64 sq, .slice a len cap] t1)
  have hb2 := bOne (w.alloc (.cells #[.bool up, .int .i64 ep, .int .i64 sq, .slice a len cap] t1)) (.cells #[.int .i64 s] t3)
  have hb3 := bOne ((w.alloc (.cells #[.bool up, .int .i64 ep, .int .i64 sq, .slice a len cap] t1)).alloc (.cells #[.int .i64 s] t3)) (.cells #[.bool false, .int .i64 0, .int .i64 0, .slice none 0 0] t2)
  have hs1 : (w.alloc (.cells #[.bool up, .int .i64 ep, .int .i64 sq, .slice a len cap] t1)).heap.size = w.heap.size + 1 := by simp
  have hs2 : ((w.alloc (.cells #[.bool up, .int .i64 ep, .int .i64 sq, .slice a len cap] t1)).alloc (.cells #[.int .i64 s] t3)).heap.size = w.heap.size + 1 + 1 := by simp
  have hi : Bi ((w.alloc (.cells #[.bool up, .int .i64 ep, .int .i64 sq, .slice a len cap] t1)).alloc (.cells #[.int .i64 s] t3)) (w.heap.size + 1) s := by
    have : Bi ((w.alloc (.cells #[.bool up, .int .i64 ep, .int .i64 sq, .slice a len cap] t1)).alloc (.cells #[.int .i64 s] t3)) (w.alloc (.cells #[.bool up, .int .i64 ep, .int .i64 sq, .slice a len cap] t1)).heap.size s := ⟨cell_of_row _ _ 0 _ t3 (0, 0) (heap_alloc_new _ _), by simp⟩
    rwa [hs1] at this
  refine ⟨⟨bAfter (bAfter hb1 hb2 (by simp)) hb3 (by simp; omega), ((B4.new w _ _ _ _ t1).below hb2).below hb3, ?_, ((Fr.new w _ t1).low hb2 (by simp)).low hb3 (by simp; omega), ?_, ((h.below hb1).below (hb2.mono (by simp))).below (hb3.mono (by simp; omega)), by omega⟩, hi.below hb3⟩
  · have := B4.new ((w.alloc (.cells #[.bool up, .int .i64 ep, .int .i64 sq, .slice a len cap] t1)).alloc (.cells #[.int .i64 s] t3)) false 0 0 (.slice none 0 0) t2
    rwa [hs2] at this
  · have := Fr.new ((w.alloc (.cells #[.bool up, .int .i64 ep, .int .i64 sq, .slice a len cap] t1)).alloc (.cells #[.int .i64 s] t3)) #[.bool false, .int .i64 0, .int .i64 0, .slice none 0 0] t2
    rwa [hs2] at this

set_option maxRecDepth 100000 in
set_option maxHeartbeats 1000000 in
theorem late_any (w : World) (a : Option Addr) (len cap : Nat) (up : Bool) (ep sq : Int) (l : List Y) (now : Int) (h : YIs w.heap.size w a len l) (hlen : len ≤ 1048576) :
    Calls Try.prog 29 #[.agg #[.bool up, .int .i64 ep, .int .i64 sq, .slice a len cap], .int .i64 now] w fun e w' => LandEnd w w' up ep sq (latL up ep sq l now) (latI up ep sq l now) e := by
  have hmf : ∀ (fn : Fn) (first cap : Array Value) (w : World), (Instr.makeFunc fn first cap).run Try.prog w = .ok (.func fn first cap) w := fun _ _ _ _ => rfl
  have hf := Fr2.three w up ep sq now a len cap l h 26 26 3
  have HF := Lib.hid hf.1
  have HI := Lib.hid hf.2
  clear h hf
  go_enter Try.func29, Try.ntmps29
  go_wp2_with fail
  refine (linkOk_any _ a len cap up ep sq l HF.out.here).mono ?_
  rintro e w3 ⟨rfl, hb3⟩
  have HF3 := Lib.hid (HF.out.step hb3)
  have HI3 := Lib.hid (HI.out.below hb3)
  clear hb3 HF HI
  obtain ⟨⟨c0, c1, c2, c3⟩, ⟨d0, d1, d2, d3⟩, ⟨f0, f1, f2, f3⟩, g3⟩ := HF3.out.cells
  cases hok : lokB up ep sq l with
  | true =>
    have HOK := Lib.hid hok
    clear hok
    go_wp2_with fail
    refine (land_any 61 ⟨w.heap.size + 1, 0, none⟩ (isU now) _ a len cap up ep sq l HF3.out.here hlen enters_U (fun w1 x y z hb => call_U _ now w1 x y z (HI3.out.below hb).c (HI3.out.below hb).lt)).mono ?_
    rintro e w4 ⟨⟨a1, cap1, a2, cap2, rfl, ho4, hi4⟩, hb4⟩
    have HF4 := Lib.hid (HF3.out.step hb4)
    have HE := Lib.hid (fun x0 x1 x2 x3 => HF4.out.end_ ho4 HF3.out.b1.lt x0 x1 x2 x3)
    have HE2 := Lib.hid (fun x0 x1 x2 x3 => HF4.out.endI hi4 HF3.out.b1.lt x0 x1 x2 x3)
    clear hb4 ho4 hi4 c0 c1 c2 c3 d0 d1 d2 d3 f0 f1 f2 f3 g3
    obtain ⟨⟨c0, c1, c2, c3⟩, ⟨d0, d1, d2, d3⟩, ⟨f0, f1, f2, f3⟩, g3⟩ := HF4.out.cells
    go_wp2_with fail
    refine bodyPost_ret (v := .tuple #[.agg #[.bool up, .int .i64 ep, .int .i64 sq, .slice a1 (stayL (isU now) l).length cap1], .slice a2 (idsL (goneL (isU now) l)).length cap2]) (by simp [results, Try.results29, go_sem, d0, d1, d2, d3]) rfl ?_
    unfold latL latI
    rw [HOK.out]
    exact ⟨⟨a1, cap1, a2, cap2, rfl, (HE.out _ _ _ _).1, HE2.out _ _ _ _⟩, (HE.out _ _ _ _).2⟩
  | false =>
    have HOK := Lib.hid hok
    clear hok
    go_wp2_with fail
    refine (copyLink_any _ a len cap up ep sq l HF3.out.here hlen).mono ?_
    rintro e w4 ⟨⟨a1, cap1, rfl, ho4⟩, hb4⟩
    have HF4 := Lib.hid (HF3.out.step hb4)
    have HE := Lib.hid (fun x0 x1 x2 x3 => HF4.out.end_ ho4 HF3.out.b1.lt x0 x1 x2 x3)
    clear hb4 ho4 c0 c1 c2 c3 d0 d1 d2 d3 f0 f1 f2 f3 g3
    obtain ⟨⟨c0, c1, c2, c3⟩, ⟨d0, d1, d2, d3⟩, ⟨f0, f1, f2, f3⟩, g3⟩ := HF4.out.cells
    go_wp2_with fail
    refine bodyPost_ret (v := .tuple #[.agg #[.bool up, .int .i64 ep, .int .i64 sq, .slice a1 l.length cap1], .slice none 0 0]) (by simp [results, Try.results29, go_sem, d0, d1, d2, d3]) rfl ?_
    unfold latL latI
    rw [HOK.out]
    exact ⟨⟨a1, cap1, none, 0, rfl, (HE.out _ _ _ _).1, IOwn.nil _ _⟩, (HE.out _ _ _ _).2⟩

set_option maxRecDepth 100000 in
set_option maxHeartbeats 1000000 in
theorem forget_any (w : World) (a : Option Addr) (len cap : Nat) (up : Bool) (ep sq : Int) (l : List Y) (id : Int) (h : YIs w.heap.size w a len l) (hlen : len ≤ 1048576) :
    Calls Try.prog 24 #[.agg #[.bool up, .int .i64 ep, .int .i64 sq, .slice a len cap], .int .i64 id] w fun e w' => LinkEnd w w' up ep sq (fgtL up ep sq l id) e := by
  have hmf : ∀ (fn : Fn) (first cap : Array Value) (w : World), (Instr.makeFunc fn first cap).run Try.prog w = .ok (.func fn first cap) w := fun _ _ _ _ => rfl
  have hf := Fr2.three w up ep sq id a len cap l h 26 26 3
  have HF := Lib.hid hf.1
  have HI := Lib.hid hf.2
  clear h hf
  go_enter Try.func24, Try.ntmps24
  go_wp2_with fail
  refine (linkOk_any _ a len cap up ep sq l HF.out.here).mono ?_
  rintro e w3 ⟨rfl, hb3⟩
  have HF3 := Lib.hid (HF.out.step hb3)
  have HI3 := Lib.hid (HI.out.below hb3)
  clear hb3 HF HI
  obtain ⟨⟨c0, c1, c2, c3⟩, ⟨d0, d1, d2, d3⟩, ⟨f0, f1, f2, f3⟩, g3⟩ := HF3.out.cells
  cases hok : lokB up ep sq l with
  | true =>
    have HOK := Lib.hid hok
    clear hok
    go_wp2_with fail
    refine (land_any 59 ⟨w.heap.size + 1, 0, none⟩ (isI id) _ a len cap up ep sq l HF3.out.here hlen enters_I (fun w1 x y z hb => call_I _ id w1 x y z (HI3.out.below hb).c (HI3.out.below hb).lt)).mono ?_
    rintro e w4 ⟨⟨a1, cap1, a2, cap2, rfl, ho4, hi4⟩, hb4⟩
    have hb5 := bOne w4 (.cells #[.bool up, .int .i64 ep, .int .i64 sq, .slice a1 (stayL (isI id) l).length cap1] 26)
    have HF5 := Lib.hid ((HF3.out.step hb4).step hb5)
    have HE := Lib.hid (fun x0 x1 x2 x3 => HF5.out.end_ (ho4.below hb5) HF3.out.b1.lt x0 x1 x2 x3)
    have HN := Lib.hid (B4.new w4 up ep sq (.slice a1 (stayL (isI id) l).length cap1) 26)
    clear hb4 hb5 ho4 hi4 c0 c1 c2 c3 d0 d1 d2 d3 f0 f1 f2 f3 g3
    obtain ⟨⟨c0, c1, c2, c3⟩, ⟨d0, d1, d2, d3⟩, ⟨f0, f1, f2, f3⟩, g3⟩ := HF5.out.cells
    go_wp2_with fail
    refine bodyPost_ret (v := .agg #[.bool up, .int .i64 ep, .int .i64 sq, .slice a1 (stayL (isI id) l).length cap1]) (by simp [results, Try.results24, go_sem, d0, d1, d2, d3]) rfl ?_
    unfold fgtL
    rw [HOK.out]
    exact ⟨⟨a1, cap1, rfl, (HE.out _ _ _ _).1⟩, (HE.out _ _ _ _).2⟩
  | false =>
    have HOK := Lib.hid hok
    clear hok
    go_wp2_with fail
    refine (copyLink_any _ a len cap up ep sq l HF3.out.here hlen).mono ?_
    rintro e w4 ⟨⟨a1, cap1, rfl, ho4⟩, hb4⟩
    have HF4 := Lib.hid (HF3.out.step hb4)
    have HE := Lib.hid (fun x0 x1 x2 x3 => HF4.out.end_ ho4 HF3.out.b1.lt x0 x1 x2 x3)
    clear hb4 ho4 c0 c1 c2 c3 d0 d1 d2 d3 f0 f1 f2 f3 g3
    obtain ⟨⟨c0, c1, c2, c3⟩, ⟨d0, d1, d2, d3⟩, ⟨f0, f1, f2, f3⟩, g3⟩ := HF4.out.cells
    go_wp2_with fail
    refine bodyPost_ret (v := .agg #[.bool up, .int .i64 ep, .int .i64 sq, .slice a1 l.length cap1]) (by simp [results, Try.results24, go_sem, d0, d1, d2, d3]) rfl ?_
    unfold fgtL
    rw [HOK.out]
    exact ⟨⟨a1, cap1, rfl, (HE.out _ _ _ _).1⟩, (HE.out _ _ _ _).2⟩
end Go.Proofs.Ytjfhdelphfgojaa.Lnk
