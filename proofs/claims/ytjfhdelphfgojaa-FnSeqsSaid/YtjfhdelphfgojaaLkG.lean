/-
  The walk of the program's Launch.
-/
import Derived.Test.YtjfhdelphfgojaaLkF
import Derived.Deep.Cut
namespace Go.Proofs.Ytjfhdelphfgojaa.Lnk
open Go.RowKit
set_option linter.unusedVariables false

set_option maxRecDepth 100000 in
set_option maxHeartbeats 1000000 in
theorem launch_any (w : World) (a : Option Addr) (len cap : Nat) (up : Bool) (ep sq : Int) (l : List Y) (id un : Int) (h : YIs w.heap.size w a len l) (hlen : len ≤ 1048576) (hc : len ≤ cap) :
    Calls Try.prog 18 #[.agg #[.bool up, .int .i64 ep, .int .i64 sq, .slice a len cap], .int .i64 id, .int .i64 un] w fun e w' => NumEnd w w' up ep (lauS up ep sq l id un) (lauL up ep sq l id un) (lauN up ep sq l id un) e := by
  have hf := Fr2.two w up ep sq a len cap l h 26 26
  obtain ⟨s1, hs1⟩ : ∃ s, s = IntKind.i64.wrap (sq + 1) := ⟨_, rfl⟩
  have HS1 := Lib.hid hs1
  have hs1' := hs1.symm
  have hb := bOne ((w.alloc (.cells #[.bool up, .int .i64 ep, .int .i64 sq, .slice a len cap] 26)).alloc (.cells #[.bool false, .int .i64 0, .int .i64 0, .slice none 0 0] 26)) (.cells #[.bool up, .int .i64 ep, .int .i64 s1, .slice a len cap] 26)
  have hn := B4.new ((w.alloc (.cells #[.bool up, .int .i64 ep, .int .i64 sq, .slice a len cap] 26)).alloc (.cells #[.bool false, .int .i64 0, .int .i64 0, .slice none 0 0] 26)) up ep s1 (.slice a len cap) 26
  have hz := Fr.new ((w.alloc (.cells #[.bool up, .int .i64 ep, .int .i64 sq, .slice a len cap] 26)).alloc (.cells #[.bool false, .int .i64 0, .int .i64 0, .slice none 0 0] 26)) #[.bool up, .int .i64 ep, .int .i64 s1, .slice a len cap] 26
  have hsz : ((w.alloc (.cells #[.bool up, .int .i64 ep, .int .i64 sq, .slice a len cap] 26)).alloc (.cells #[.bool false, .int .i64 0, .int .i64 0, .slice none 0 0] 26)).heap.size = w.heap.size + 1 + 1 := by simp
  rw [hsz] at hn hz
  have HF := Lib.hid (hf.step hb)
  have HN := Lib.hid hn
  have HZ := Lib.hid hz
  have HHL := Lib.hid h.hlen
  clear h hf hb hn hz hsz hs1
  go_enter Try.func18, Try.ntmps18
  go_wp2_with fail
  refine (put_any _ a len cap l s1 id un HF.out.here hc (by omega)).mono ?_
  rintro e w3 ⟨⟨a3, cap3, rfl, ho3⟩, hb3⟩
  have HB3 := Lib.hid hb3
  have HF3 := Lib.hid (HF.out.step hb3)
  have HN3 := Lib.hid (HN.out.below hb3)
  have HZ3 := Lib.hid (HZ.out.low hb3 HN.out.lt)
  have HO3 := Lib.hid ho3
  clear hb3 ho3
  obtain ⟨n3, hn3⟩ : ∃ n, n = (l ++ [(s1, id, un)]).length := ⟨_, rfl⟩
  rw [← hn3] at HO3 ⊢
  have HN0 := Lib.hid hn3
  clear hn3
  have hz : w.heap.size + 1 + 1 < w3.heap.size := HN3.out.lt
  have HZL := Lib.hid hz
  have hF5 : Fr2 w (w3.setCell ⟨w.heap.size + 1 + 1, 3, none⟩ (.slice a3 n3 cap3)) (w.heap.size + 1) up ep sq a len cap l := ⟨HF3.out.low.setCell (by simp; omega) _, HF3.out.b0.set _ _ (by simp; omega), HF3.out.b1.set _ _ (by simp), HF3.out.f0.set _ _, HF3.out.f1.set _ _, by
    have := HF3.out.yis
    exact this.below ((Below.refl w.heap.size w3).setCell (by simp; omega) _), HF3.out.lt⟩
  have HF5 := Lib.hid hF5
  have HN5 := Lib.hid (HN3.out.set3 (.slice a3 n3 cap3))
  have HO5 := Lib.hid (HO3.out.setLow (p := ⟨w.heap.size + 1 + 1, 3, none⟩) (by simp) (.slice a3 n3 cap3))
  obtain ⟨⟨c0, c1, c2, c3⟩, ⟨d0, d1, d2, d3⟩, ⟨f0, f1, f2, f3⟩, g3⟩ := HF3.out.cells
  obtain ⟨e0, e1, e2, e3, el⟩ := HN3.out.cells
  have z3 := HZ3.out 3
  have hlt0 := HF3.out.b0.lt
  clear hF5
  go_wp2_with fail
  refine (linkOk_any _ a len cap up ep sq l HF5.out.here).mono ?_
  rintro e w6 ⟨rfl, hb6⟩
  have HF6 := Lib.hid (HF5.out.step hb6)
  have HN6 := Lib.hid (HN5.out.below hb6)
  have HO6 := Lib.hid (HO5.out.below hb6)
  clear hb6 c0 c1 c2 c3 d0 d1 d2 d3 f0 f1 f2 f3 g3 e0 e1 e2 e3 el z3 hlt0 hz
  obtain ⟨⟨c0, c1, c2, c3⟩, ⟨d0, d1, d2, d3⟩, ⟨f0, f1, f2, f3⟩, g3⟩ := HF6.out.cells
  obtain ⟨e0, e1, e2, e3, el⟩ := HN6.out.cells
  cases hok : lokB up ep sq l with
  | false =>
    have HJ := Lib.hid (show lauB up ep sq l id un = false by unfold lauB; rw [hok]; rfl)
    clear hok
    go_wp2_with fail
    refine (copyLink_any _ a len cap up ep sq l HF6.out.here hlen).mono ?_
    rintro e w4 ⟨⟨a1, cap1, rfl, ho4⟩, hb4⟩
    have HF4 := Lib.hid (HF6.out.step hb4)
    have HE := Lib.hid (fun x0 x1 x2 x3 => HF4.out.end_ ho4 HF6.out.b1.lt x0 x1 x2 x3)
    clear hb4 ho4 c0 c1 c2 c3 d0 d1 d2 d3 f0 f1 f2 f3 g3 e0 e1 e2 e3 el
    obtain ⟨⟨c0, c1, c2, c3⟩, ⟨d0, d1, d2, d3⟩, ⟨f0, f1, f2, f3⟩, g3⟩ := HF4.out.cells
    go_wp2_with fail
    refine bodyPost_ret (v := .tuple #[.agg #[.bool up, .int .i64 ep, .int .i64 sq, .slice a1 l.length cap1], .int .i64 0]) (by simp [results, Try.results18, go_sem, d0, d1, d2, d3]) rfl ?_
    unfold lauS lauL lauN
    rw [HJ.out]
    exact ⟨⟨a1, cap1, rfl, (HE.out _ _ _ _).1⟩, (HE.out _ _ _ _).2⟩
  | true =>
    have HSQ := Lib.hid (show s1 = sq + 1 by
      have h1 := lokB_iff.1 hok
      rw [HS1.out]
      exact IntWalk.i64_in _ (by have := h1.s0; have := h1.s1; omega))
    have HOK := Lib.hid hok
    clear hok
    go_wp2_with fail
    refine (linkOk_any _ a3 n3 cap3 up ep s1 (l ++ [(s1, id, un)]) (by have := HO6.out.isN; exact this)).mono ?_
    rintro e w7 ⟨rfl, hb7⟩
    have HF7 := Lib.hid (HF6.out.step hb7)
    have HN7 := Lib.hid (HN6.out.below hb7)
    have HO7 := Lib.hid (HO6.out.below hb7)
    clear hb7 c0 c1 c2 c3 d0 d1 d2 d3 f0 f1 f2 f3 g3 e0 e1 e2 e3 el
    obtain ⟨⟨c0, c1, c2, c3⟩, ⟨d0, d1, d2, d3⟩, ⟨f0, f1, f2, f3⟩, g3⟩ := HF7.out.cells
    obtain ⟨e0, e1, e2, e3, el⟩ := HN7.out.cells
    cases hk : lokB up ep s1 (l ++ [(s1, id, un)]) with
    | false =>
      have HJ := Lib.hid (show lauB up ep sq l id un = false by unfold lauB; rw [← HSQ.out, hk, HOK.out]; rfl)
      clear hk
      go_wp2_with fail
      refine (copyLink_any _ a len cap up ep sq l HF7.out.here hlen).mono ?_
      rintro e w4 ⟨⟨a1, cap1, rfl, ho4⟩, hb4⟩
      have HF4 := Lib.hid (HF7.out.step hb4)
      have HE := Lib.hid (fun x0 x1 x2 x3 => HF4.out.end_ ho4 HF7.out.b1.lt x0 x1 x2 x3)
      clear hb4 ho4 c0 c1 c2 c3 d0 d1 d2 d3 f0 f1 f2 f3 g3 e0 e1 e2 e3 el
      obtain ⟨⟨c0, c1, c2, c3⟩, ⟨d0, d1, d2, d3⟩, ⟨f0, f1, f2, f3⟩, g3⟩ := HF4.out.cells
      go_wp2_with fail
      refine bodyPost_ret (v := .tuple #[.agg #[.bool up, .int .i64 ep, .int .i64 sq, .slice a1 l.length cap1], .int .i64 0]) (by simp [results, Try.results18, go_sem, d0, d1, d2, d3]) rfl ?_
      unfold lauS lauL lauN
      rw [HJ.out]
      exact ⟨⟨a1, cap1, rfl, (HE.out _ _ _ _).1⟩, (HE.out _ _ _ _).2⟩
    | true =>
      have HJ := Lib.hid (show lauB up ep sq l id un = true by unfold lauB; rw [← HSQ.out, hk, HOK.out]; rfl)
      clear hk
      go_wp2_with fail
      refine bodyPost_ret (v := .tuple #[.agg #[.bool up, .int .i64 ep, .int .i64 s1, .slice a3 n3 cap3], .int .i64 s1]) (by simp [results, Try.results18, go_sem, d0, d1, d2, d3]) rfl ?_
      unfold lauS lauL lauN
      rw [HJ.out, if_pos rfl, if_pos rfl, if_pos rfl, ← HSQ.out]
      have hE := fun x0 x1 x2 x3 => HF7.out.end_ (B := w.heap.size + 1 + 1) (HO7.out.base (by simp)) (by omega) x0 x1 x2 x3
      refine ⟨⟨a3, cap3, by rw [HN0.out], ?_⟩, (hE _ _ _ _).2⟩
      rw [← HN0.out]
      exact (hE _ _ _ _).1
end Go.Proofs.Ytjfhdelphfgojaa.Lnk
