/-
  How great a gate is: the walks of the measures.
-/
import Derived.Test.YtecfomaapomncaaGtA
import Derived.Test.YtecfomaapomncaaEvX
namespace Go.Proofs.Ytecfomaapomncaa.Gat
open Go.RowKit
open Lnk (bOne bAfter)
set_option linter.unusedVariables false

/-- what is left, or -1 -/
def SzEnd (z x : Int) (P : Prop) : Prop := z = -1 ∨ 0 ≤ z ∧ z ≤ x ∧ P
theorem szEvent_any (i d c : Int) (b : ByteArray) (a t r n s x : Int) (w : World) (hb : b.size ≤ maxLen) (h0 : 0 ≤ x) (h1 : x ≤ 1048576) :
    Calls Try.prog 80 #[.agg #[.int .i64 i, .int .i64 d, .int .i64 c, .string b, .int .i64 a, .int .i64 t, .int .i64 r, .int .i64 n, .int .i64 s], .int .i64 x] w fun en w' => (∃ z : Int, en = .returned (.int .i64 z) ∧ SzEnd z x True) ∧ Below w.heap.size w w' := by
  unfold maxLen at hb
  have hsub : IntKind.i64.wrap (x - (b.size : Int)) = x - (b.size : Int) := IntWalk.i64_in _ (by omega)
  have hsub2 : wrap64 (x - (b.size : Int)) = x - (b.size : Int) := by unfold wrap64; omega
  obtain ⟨y, hy⟩ : ∃ y, y = x - (b.size : Int) := ⟨_, rfl⟩
  rw [← hy] at hsub hsub2
  have HY := Lib.hid hy
  have hyx : y ≤ x := by omega
  by_cases hlt : y < 0
  · go_enter Try.func80, Try.ntmps80
    go_wp2
    go_ret
    exact ⟨⟨-1, rfl, .inl rfl⟩, bOne _ _⟩
  · go_enter Try.func80, Try.ntmps80
    go_wp2
    go_ret
    exact ⟨⟨x - (b.size : Int), rfl, .inr ⟨by omega, by omega, trivial⟩⟩, bOne _ _⟩

theorem szInts_any (a : Option Addr) (len cap : Nat) (x : Int) (w : World) (hl : len ≤ maxLen) (h0 : 0 ≤ x) (h1 : x ≤ 1048576) :
    Calls Try.prog 51 #[.slice a len cap, .int .i64 x] w fun en w' => (∃ z : Int, en = .returned (.int .i64 z) ∧ SzEnd z x (len ≤ 1048576)) ∧ w = w' := by
  unfold maxLen at hl
  by_cases hlt : x - (len : Int) < 0
  · go_enter Try.func51, Try.ntmps51
    go_wp2
    go_ret
    exact ⟨⟨-1, rfl, .inl rfl⟩, rfl⟩
  · go_enter Try.func51, Try.ntmps51
    go_wp2
    go_ret
    exact ⟨⟨x - len, rfl, .inr ⟨by omega, by omega, by omega⟩⟩, rfl⟩
theorem szFlys_any (a : Option Addr) (len cap : Nat) (x : Int) (w : World) (hl : len ≤ maxLen) (h0 : 0 ≤ x) (h1 : x ≤ 1048576) :
    Calls Try.prog 99 #[.slice a len cap, .int .i64 x] w fun en w' => (∃ z : Int, en = .returned (.int .i64 z) ∧ SzEnd z x (len ≤ 1048576)) ∧ w = w' := by
  unfold maxLen at hl
  by_cases hlt : x - (len : Int) < 0
  · go_enter Try.func99, Try.ntmps99
    go_wp2
    go_ret
    exact ⟨⟨-1, rfl, .inl rfl⟩, rfl⟩
  · go_enter Try.func99, Try.ntmps99
    go_wp2
    go_ret
    exact ⟨⟨x - len, rfl, .inr ⟨by omega, by omega, by omega⟩⟩, rfl⟩
theorem szLink_any (a : Option Addr) (len cap : Nat) (up : Bool) (ep sq : Int) (x : Int) (w : World) (hl : len ≤ maxLen) (h0 : 0 ≤ x) (h1 : x ≤ 1048576) :
    Calls Try.prog 81 #[.agg #[.bool up, .int .i64 ep, .int .i64 sq, .slice a len cap], .int .i64 x] w fun en w' => (∃ z : Int, en = .returned (.int .i64 z) ∧ SzEnd z x (len ≤ 1048576)) ∧ Below w.heap.size w w' := by
  have HL := Lib.hid hl
  have H0 := Lib.hid h0
  have H1 := Lib.hid h1
  clear hl h0 h1
  go_enter Try.func81, Try.ntmps81
  go_wp2_with fail
  refine (szFlys_any a len cap x _ HL.out H0.out H1.out).mono ?_
  rintro en w' ⟨⟨z, rfl, hz⟩, rfl⟩
  rcases hz with rfl | ⟨hz0, hzx, hl2⟩
  · go_wp2_with fail
    go_ret
    exact ⟨⟨-1, rfl, .inl rfl⟩, bOne _ _⟩
  · have HX := Lib.hid hzx
    have HL2 := Lib.hid hl2
    have hn : ¬ z < 0 := by omega
    clear hzx hl2
    go_wp2_with fail
    go_ret
    exact ⟨⟨z, rfl, .inr ⟨hz0, HX.out, HL2.out⟩⟩, bOne _ _⟩

set_option maxRecDepth 100000 in
set_option maxHeartbeats 1000000 in
theorem szEvents_any (a : Option Addr) (len cap : Nat) (l : List Ev) (x : Int) (w : World) (h : EIs w.heap.size w a len l) (h0 : 0 ≤ x) (h1 : x ≤ 1048576) :
    Calls Try.prog 49 #[.slice a len cap, .int .i64 x] w fun en w' => (∃ z : Int, en = .returned (.int .i64 z) ∧ SzEnd z x (len ≤ 1048576)) ∧ Below w.heap.size w w' := by
  have hl := h.row.le
  have HL := Lib.hid h.row.hlen
  have HT := Lib.hid h
  unfold maxLen at hl
  clear h
  by_cases hlt : x - (len : Int) < 0
  · go_enter Try.func49, Try.ntmps49
    go_wp2
    go_ret
    exact ⟨⟨-1, rfl, .inl rfl⟩, Below.refl _ _⟩
  · obtain ⟨y, hy⟩ : ∃ y, y = x - (len : Int) := ⟨_, rfl⟩
    have hsub : IntKind.i64.wrap (x - (len : Int)) = y := by rw [hy]; exact IntWalk.i64_in _ (by omega)
    have hsub2 : wrap64 (x - (len : Int)) = y := by rw [hy]; unfold wrap64; omega
    have hy0 : 0 ≤ y := by omega
    have hyx : y ≤ x := by omega
    have hll : len ≤ 1048576 := by omega
    have HX := Lib.hid (And.intro h1 (And.intro hyx hll))
    have hyn : ¬ y < 0 := by omega
    clear hy h1 hlt hll
    go_enter Try.func49, Try.ntmps49
    go_wp2
    go_loopw [1, 5] (fun xv i wr => ∃ (j : Nat) (z : Int), j ≤ len ∧ i = .int .i64 j ∧ xv = .int .i64 z ∧ 0 ≤ z ∧ Hid (z ≤ y) ∧ Hid (Below w.heap.size w wr)) (fun _ i _ => len - (intOf i).toNat)
    case atStart => exact ⟨0, y, by omega, rfl, rfl, hy0, Lib.hid (Int.le_refl _), Lib.hid (Below.refl _ _)⟩
    case round =>
      obtain ⟨j, z, hj, rfl, rfl, hz, HZ, HB⟩ := hrel
      by_cases hlt : (j : Int) < (len : Int)
      · have hjl : j < l.length := by have := HL.out; omega
        obtain ⟨b, off, i, d, c, bd, at_, t, r, n, s, rfl, hb, hlj, hbd, c0, c1, c2, c3, c4, c5, c6, c7, c8⟩ := (HT.out.below HB.out).at j hjl
        have HBD := Lib.hid hbd
        clear hlj hbd
        go_wp2_with fail
        refine (szEvent_any i d c bd at_ t r n s z _ HBD.out hz (by have := HZ.out; have := HX.out; omega)).mono ?_
        rintro en w2 ⟨⟨z2, rfl, hz2⟩, hb2⟩
        have HB2 := Lib.hid (bAfter HB.out hb2 HB.out.size)
        clear hb2 c0 c1 c2 c3 c4 c5 c6 c7 c8
        rcases hz2 with rfl | ⟨hz3, hz4, _⟩
        · go_wp2_with fail
          go_ret
          exact ⟨⟨-1, rfl, .inl rfl⟩, HB2.out⟩
        · have hn : ¬ z2 < 0 := by omega
          have HZ4 := Lib.hid hz4
          clear hz4
          go_wp2_with fail
          go_roundw
          case rel => exact ⟨j + 1, z2, by omega, by go_num, rfl, hz3, Lib.hid (Int.le_trans HZ4.out HZ.out), HB2⟩
          case measure => simp [intOf]; omega
      · go_wp2_with fail
        go_ret
        exact ⟨⟨z, rfl, .inr ⟨hz, Int.le_trans HZ.out HX.out.2.1, HX.out.2.2⟩⟩, HB.out⟩

set_option maxRecDepth 100000 in
set_option maxHeartbeats 1000000 in
theorem szLinks_any (a : Option Addr) (len cap : Nat) (l : List Lk) (x : Int) (w : World) (h : LIs w.heap.size w a len l) (h0 : 0 ≤ x) (h1 : x ≤ 1048576) :
    Calls Try.prog 50 #[.slice a len cap, .int .i64 x] w fun en w' => (∃ z : Int, en = .returned (.int .i64 z) ∧ SzEnd z x (len ≤ 1048576 ∧ ∀ k ∈ l, k.l.length ≤ 1048576)) ∧ Below w.heap.size w w' := by
  have hl := h.le
  have HL := Lib.hid h.hlen
  have HT := Lib.hid h
  unfold maxLen at hl
  clear h
  by_cases hlt : x - (len : Int) < 0
  · go_enter Try.func50, Try.ntmps50
    go_wp2
    go_ret
    exact ⟨⟨-1, rfl, .inl rfl⟩, Below.refl _ _⟩
  · obtain ⟨y, hy⟩ : ∃ y, y = x - (len : Int) := ⟨_, rfl⟩
    have hsub : IntKind.i64.wrap (x - (len : Int)) = y := by rw [hy]; exact IntWalk.i64_in _ (by omega)
    have hsub2 : wrap64 (x - (len : Int)) = y := by rw [hy]; unfold wrap64; omega
    have hy0 : 0 ≤ y := by omega
    have hyx : y ≤ x := by omega
    have hll : len ≤ 1048576 := by omega
    have HX := Lib.hid (And.intro h1 (And.intro hyx hll))
    have hyn : ¬ y < 0 := by omega
    clear hy h1 hlt hll
    go_enter Try.func50, Try.ntmps50
    go_wp2
    go_loopw [1, 5] (fun xv i wr => ∃ (j : Nat) (z : Int), j ≤ len ∧ i = .int .i64 j ∧ xv = .int .i64 z ∧ 0 ≤ z ∧ Hid (z ≤ y) ∧ Hid (∀ k, (hk : k < l.length) → k < j → l[k].l.length ≤ 1048576) ∧ Hid (Below w.heap.size w wr)) (fun _ i _ => len - (intOf i).toNat)
    case atStart => exact ⟨0, y, by omega, rfl, rfl, hy0, Lib.hid (Int.le_refl _), Lib.hid (fun k _ hk => by omega), Lib.hid (Below.refl _ _)⟩
    case round =>
      obtain ⟨j, z, hj, rfl, rfl, hz, HZ, HS, HB⟩ := hrel
      by_cases hlt : (j : Int) < (len : Int)
      · have hjl : j < l.length := by have := HL.out; omega
        obtain ⟨b, off, up, ep, sq, y4, fa, fl, fc, rfl, hb, hlj, hy4, c0, c1, c2, c3⟩ := (HT.out.below HB.out).at j hjl
        have HJ := Lib.hid hlj
        have HF := Lib.hid hy4
        clear hlj hy4
        go_wp2_with fail
        refine (szLink_any fa fl fc up ep sq z _ HF.out.le hz (by have := HZ.out; have := HX.out; omega)).mono ?_
        rintro en w2 ⟨⟨z2, rfl, hz2⟩, hb2⟩
        have HB2 := Lib.hid (bAfter HB.out hb2 HB.out.size)
        clear hb2 c0 c1 c2 c3
        rcases hz2 with rfl | ⟨hz3, hz4, hf4⟩
        · go_wp2_with fail
          go_ret
          exact ⟨⟨-1, rfl, .inl rfl⟩, HB2.out⟩
        · have hn : ¬ z2 < 0 := by omega
          have HZ4 := Lib.hid hz4
          have HF4 := Lib.hid hf4
          clear hz4 hf4
          go_wp2_with fail
          go_roundw
          case rel => exact ⟨j + 1, z2, by omega, by go_num, rfl, hz3, Lib.hid (Int.le_trans HZ4.out HZ.out), Lib.hid (fun k hk hkj => by
            rcases (show k < j ∨ k = j by omega) with h | rfl
            · exact HS.out k hk h
            · rw [HJ.out]; have := HF.out.hlen; have := HF4.out; dsimp only; omega), HB2⟩
          case measure => simp [intOf]; omega
      · go_wp2_with fail
        go_ret
        exact ⟨⟨z, rfl, .inr ⟨hz, Int.le_trans HZ.out HX.out.2.1, HX.out.2.2, fun k hk => by
          obtain ⟨i, hi, rfl⟩ := List.mem_iff_getElem.1 hk
          exact HS.out i hi (by have := HL.out; omega)⟩⟩, HB.out⟩
end Go.Proofs.Ytecfomaapomncaa.Gat
