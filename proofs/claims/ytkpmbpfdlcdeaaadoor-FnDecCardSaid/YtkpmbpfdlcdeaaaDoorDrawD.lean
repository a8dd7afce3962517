/-
  What chapter 1's texts are drawn from: a number, and a text to be read.
-/
import Derived.Test.YtkpmbpfdlcdeaaaDoorDrawS
import Derived.Test.YtkpmbpfdlcdeaaaDoorDecW
import Derived.Lib.ItoaLen
namespace Go.Proofs.YtkpmbpfdlcdeaaaDoor.Draw
open Go.RowKit Go.Proofs.YtkpmbpfdlcdeaaaDoor.Kit
set_option linter.unusedVariables false

set_option maxHeartbeats 400000 in
theorem drawDecText (w : World) (a : Option Addr) (len cap : Nat) (hcode : CodeAt w.heap.size w a len cap) :
    Calls Tryd.prog 8 #[.slice a len cap] w fun e w' => (∃ z : Int, e = .returned (.int .i64 z) ∧ isI64 z) ∧ Below w.heap.size w w' := by
  go_enter Tryd.func8, Tryd.ntmps8
  go_wp2_with fail
  refine (new_draw _ w.heap.size a len cap hcode (Nat.le_refl _)).mono ?_
  rintro e w1 ⟨rfl, hd, hb1, -⟩
  go_wp2_with fail
  refine (int_draw _ _ w.heap.size a len cap hd).mono ?_
  rintro e w2 ⟨⟨z, rfl, hz⟩, hw⟩
  go_wp2_with fail
  go_ret
  exact ⟨⟨z, rfl, hz⟩, hb1.trans (hw.below hb1.size)⟩

def shortText (s : ByteArray) : Prop := s.size ≤ 100
theorem short_itoa (z : Int) (h0 : -9223372036854775808 ≤ z) (h1 : z ≤ 9223372036854775807) : shortText ⟨(Lib.itoa z).toArray⟩ := by
  have := Lib.itoa_length_le z h0 h1
  unfold shortText
  show (Lib.itoa z).toArray.size ≤ 100
  simp; omega

set_option maxHeartbeats 400000 in
theorem drawReadDec (w : World) (a : Option Addr) (len cap : Nat) (hcode : CodeAt w.heap.size w a len cap) :
    Calls Tryd.prog 10 #[.slice a len cap] w fun e w' => (∃ s : ByteArray, e = .returned (.string s) ∧ shortText s) ∧ Below w.heap.size w w' := by
  go_enter Tryd.func10, Tryd.ntmps10
  go_wp2_with fail
  refine (new_draw _ w.heap.size a len cap hcode (Nat.le_refl _)).mono ?_
  rintro e w1 ⟨rfl, hd, hb1, -⟩
  go_wp2_with fail
  refine (once_draw _ _ w.heap.size a len cap hd _ (by omega) (by omega)).mono ?_
  rintro e w2 ⟨⟨b, rfl⟩, hw2⟩
  have hlt := hw2.dr.cur.lt
  cases b
  · go_wp2_with fail
    refine (below_draw _ _ w.heap.size a len cap hw2.dr _ (by omega) (by omega)).mono ?_
    rintro e w3 ⟨⟨x, rfl, hx0, hx1⟩, hw3⟩
    go_wp2_with fail
    refine (Dec.specDec_any x _ (by omega) (by omega)).mono ?_
    rintro e w4 ⟨rfl, rfl⟩
    go_wp2_with fail
    go_ret
    exact ⟨⟨_, rfl, short_itoa x (by omega) (by omega)⟩, hb1.trans ((hw2.trans hw3).below hb1.size)⟩
  · go_wp2_with fail
    refine (pick_draw _ _ w.heap.size a len cap (hw2.alloc _).dr w2.heap.size 8 shortText (strs_new w2 [.string ⟨#[]⟩, .string ⟨#[45, 49]⟩, .string ⟨#[48, 48]⟩, .string ⟨#[48, 49]⟩, .string ⟨#[49, 120]⟩, .string ⟨#[57, 57, 57, 57, 57, 57, 57, 57, 57]⟩, .string ⟨#[49, 48, 48, 48, 48, 48, 48, 48, 48, 48]⟩, .string ⟨#[49, 56, 52, 52, 54, 55, 52, 52, 48, 55, 51, 55, 48, 57, 53, 53, 49, 54, 49, 55]⟩] 9 shortText ?_) (by omega) (by omega) (by omega)).mono ?_
    · intro v hv
      simp only [List.mem_cons, List.mem_nil_iff, or_false] at hv
      rcases hv with rfl | rfl | rfl | rfl | rfl | rfl | rfl | rfl <;> exact ⟨_, rfl, by unfold shortText; decide⟩
    · rintro e w3 ⟨⟨s, rfl, hs⟩, hw3⟩
      go_wp2_with fail
      go_ret
      exact ⟨⟨s, rfl, hs⟩, hb1.trans (((hw2.alloc _).trans hw3).below hb1.size)⟩
end Go.Proofs.YtkpmbpfdlcdeaaaDoor.Draw
