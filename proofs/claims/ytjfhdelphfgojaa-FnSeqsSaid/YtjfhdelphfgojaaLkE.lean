/-
  The walks of the program's Join, Leave and Launch.
-/
import Derived.Test.YtjfhdelphfgojaaLkD
namespace Go.Proofs.Ytjfhdelphfgojaa.Lnk
open Go.RowKit
set_option linter.unusedVariables false

set_option maxRecDepth 100000 in
set_option maxHeartbeats 1000000 in
theorem join_any (w : World) (a : Option Addr) (len cap : Nat) (up : Bool) (ep sq : Int) (l : List Y) (h : YIs w.heap.size w a len l) (hlen : len ≤ 1048576) :
    Calls Try.prog 34 #[.agg #[.bool up, .int .i64 ep, .int .i64 sq, .slice a len cap]] w fun e w' => LandEnd w w' (joU up ep sq l) (joE up ep sq l) (joS up ep sq l) (joL up ep sq l) (joI up ep sq l) e := by
  have hf := Fr2.two w up ep sq a len cap l h 26 26
  have HF := Lib.hid hf
  clear h hf
  go_enter Try.func34, Try.ntmps34
  go_wp2_with fail
  refine (linkOk_any _ a len cap up ep sq l HF.out.here).mono ?_
  rintro e w3 ⟨rfl, hb3⟩
  have HF3 := Lib.hid (HF.out.step hb3)
  clear hb3 HF
  obtain ⟨⟨c0, c1, c2, c3⟩, ⟨d0, d1, d2, d3⟩, ⟨f0, f1, f2, f3⟩, g3⟩ := HF3.out.cells
  by_cases hj : LOk up ep sq l ∧ ep ≠ 60000
  · have HJ := Lib.hid (show joiB up ep sq l = true by unfold joiB; rw [lokB_true hj.1]; simp [hj.2])
    rw [lokB_true hj.1]
    have hb1 : (ep == 60000) = false := by simpa using hj.2
    have hw : IntKind.i64.wrap (ep + 1) = ep + 1 := IntWalk.i64_in _ (by have := hj.1.e0; have := hj.1.e1; omega)
    have hl0 := HF3.out.b0.lt
    have hl1 := HF3.out.b1.lt
    clear hj
    go_wp2_with fail
    have HD := Lib.hid (show Below w3.heap.size w3 w3.drew from below_drew' (Below.refl _ _))
    go_region_with (go_at_call 62; refine (flyingIds_any _ a len cap l (HF3.out.here.here HD.out) (by omega)).mono ?_; rintro e w6 ⟨⟨a6, cap6, rfl, ho6⟩, hb6⟩; have HF6 := Lib.hid ((HF3.out.step HD.out).step hb6); have HO6 := Lib.hid ho6; clear hb6 ho6; obtain ⟨⟨c0, c1, c2, c3⟩, ⟨d0, d1, d2, d3⟩, ⟨f0, f1, f2, f3⟩, g3⟩ := HF6.out.cells)
    all_goals
      go_wp2_with fail
      have hE := fun x0 x1 x2 x3 => HF6.out.end_ (YOwn.nil w6.heap.size w6 40) HF6.out.b1.lt x0 x1 x2 x3
      have hE2 := fun x0 x1 x2 x3 => HF6.out.endI HO6.out HF3.out.b1.lt x0 x1 x2 x3
      refine bodyPost_ret (v := .tuple #[.agg #[.bool true, .int .i64 (ep + 1), .int .i64 0, .slice none 0 0], .slice a6 (idsL l).length cap6]) (by simp [results, Try.results34, go_sem, d0, d1, d2, d3]) rfl ?_
      unfold joU joE joS joL joI
      rw [HJ.out]
      exact ⟨⟨none, 0, a6, cap6, rfl, (hE _ _ _ _).1, hE2 _ _ _ _⟩, (hE _ _ _ _).2⟩
  · have HJ := Lib.hid (show joiB up ep sq l = false by
      unfold joiB
      by_cases h1 : LOk up ep sq l
      · have : ep = 60000 := Decidable.byContradiction (fun h => hj ⟨h1, h⟩)
        simp [this]
      · rw [lokB_false h1]; rfl)
    have hq : lokB up ep sq l = false ∨ (lokB up ep sq l = true ∧ (ep == 60000) = true) := by
      by_cases h1 : LOk up ep sq l
      · have : ep = 60000 := Decidable.byContradiction (fun h => hj ⟨h1, h⟩)
        exact .inr ⟨lokB_true h1, by simp [this]⟩
      · exact .inl (lokB_false h1)
    clear hj
    rcases hq with hq | ⟨hq, hb1⟩
    all_goals
      rw [hq]
      clear hq
      go_wp2_with fail
      refine (copyLink_any _ a len cap up ep sq l HF3.out.here hlen).mono ?_
      rintro e w4 ⟨⟨a1, cap1, rfl, ho4⟩, hb4⟩
      have HF4 := Lib.hid (HF3.out.step hb4)
      have HE := Lib.hid (fun x0 x1 x2 x3 => HF4.out.end_ ho4 HF3.out.b1.lt x0 x1 x2 x3)
      clear hb4 ho4 c0 c1 c2 c3 d0 d1 d2 d3 f0 f1 f2 f3 g3
      obtain ⟨⟨c0, c1, c2, c3⟩, ⟨d0, d1, d2, d3⟩, ⟨f0, f1, f2, f3⟩, g3⟩ := HF4.out.cells
      go_wp2_with fail
      refine bodyPost_ret (v := .tuple #[.agg #[.bool up, .int .i64 ep, .int .i64 sq, .slice a1 l.length cap1], .slice none 0 0]) (by simp [results, Try.results34, go_sem, d0, d1, d2, d3]) rfl ?_
      unfold joU joE joS joL joI
      rw [HJ.out]
      exact ⟨⟨a1, cap1, none, 0, rfl, (HE.out _ _ _ _).1, IOwn.nil _ _⟩, (HE.out _ _ _ _).2⟩

set_option maxRecDepth 100000 in
set_option maxHeartbeats 1000000 in
theorem leave_any (w : World) (a : Option Addr) (len cap : Nat) (up : Bool) (ep sq : Int) (l : List Y) (h : YIs w.heap.size w a len l) (hlen : len ≤ 1048576) :
    Calls Try.prog 37 #[.agg #[.bool up, .int .i64 ep, .int .i64 sq, .slice a len cap]] w fun e w' => LandEnd w w' (leU up ep sq l) ep sq (leL up ep sq l) (leI up ep sq l) e := by
  have hf := Fr2.two w up ep sq a len cap l h 26 26
  have HF := Lib.hid hf
  clear h hf
  go_enter Try.func37, Try.ntmps37
  go_wp2_with fail
  refine (linkOk_any _ a len cap up ep sq l HF.out.here).mono ?_
  rintro e w3 ⟨rfl, hb3⟩
  have HF3 := Lib.hid (HF.out.step hb3)
  clear hb3 HF
  obtain ⟨⟨c0, c1, c2, c3⟩, ⟨d0, d1, d2, d3⟩, ⟨f0, f1, f2, f3⟩, g3⟩ := HF3.out.cells
  cases hok : lokB up ep sq l with
  | true =>
    have HOK := Lib.hid hok
    have hl0 := HF3.out.b0.lt
    have hl1 := HF3.out.b1.lt
    clear hok
    go_wp2_with fail
    have HD := Lib.hid (show Below w3.heap.size w3 w3.drew from below_drew' (Below.refl _ _))
    go_region_with (go_at_call 62; refine (flyingIds_any _ a len cap l (HF3.out.here.here HD.out) (by omega)).mono ?_; rintro e w6 ⟨⟨a6, cap6, rfl, ho6⟩, hb6⟩; have HF6 := Lib.hid ((HF3.out.step HD.out).step hb6); have HO6 := Lib.hid ho6; clear hb6 ho6; obtain ⟨⟨c0, c1, c2, c3⟩, ⟨d0, d1, d2, d3⟩, ⟨f0, f1, f2, f3⟩, g3⟩ := HF6.out.cells)
    all_goals
      go_wp2_with fail
      have hE := fun x0 x1 x2 x3 => HF6.out.end_ (YOwn.nil w6.heap.size w6 40) HF6.out.b1.lt x0 x1 x2 x3
      have hE2 := fun x0 x1 x2 x3 => HF6.out.endI HO6.out HF3.out.b1.lt x0 x1 x2 x3
      refine bodyPost_ret (v := .tuple #[.agg #[.bool false, .int .i64 ep, .int .i64 sq, .slice none 0 0], .slice a6 (idsL l).length cap6]) (by simp [results, Try.results37, go_sem, d0, d1, d2, d3]) rfl ?_
      unfold leU leL leI
      rw [HOK.out]
      exact ⟨⟨none, 0, a6, cap6, rfl, (hE _ _ _ _).1, hE2 _ _ _ _⟩, (hE _ _ _ _).2⟩
  | false =>
    have HOK := Lib.hid hok
    clear hok
    go_wp2_with fail
    refine (copyLink_any _ a len cap up ep sq l HF3.out.here hlen).mono ?_
    rintro e w4 ⟨⟨a1, cap1, rfl, ho4⟩, hb4⟩
    have HF4 := Lib.hid (HF3.out.step hb4)
    have HE := Lib.hid (fun x0 x1 x2 x3 => HF4.out.end_ ho4 HF3.out.b1.lt x0 x1 x2 x3)
    clear hb4 ho4 c0 c1 c2 c3 d0 d1 d2 d3 f0 f1 f2 f3 g3
    obtain ⟨⟨c0, c1, c2, c3⟩, ⟨d0, d1, d2, d3⟩, ⟨f0, f1, f2, f3⟩, g3⟩ := HF4.out.cells
    go_wp2_with fail
    refine bodyPost_ret (v := .tuple #[.agg #[.bool up, .int .i64 ep, .int .i64 sq, .slice a1 l.length cap1], .slice none 0 0]) (by simp [results, Try.results37, go_sem, d0, d1, d2, d3]) rfl ?_
    unfold leU leL leI
    rw [HOK.out]
    exact ⟨⟨a1, cap1, none, 0, rfl, (HE.out _ _ _ _).1, IOwn.nil _ _⟩, (HE.out _ _ _ _).2⟩
end Go.Proofs.Ytjfhdelphfgojaa.Lnk
