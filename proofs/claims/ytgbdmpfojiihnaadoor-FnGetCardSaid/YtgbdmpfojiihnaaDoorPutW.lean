/-
  The walks of PutNum, of the program and of the specification.
-/
import Derived.Test.YtgbdmpfojiihnaaDoorProg
import Derived.WalkKit
import Derived.WalkSpells
import Derived.WalkLawsBesides
import Derived.Lib.Hide
import Derived.Test.YtgbdmpfojiihnaaDoorKit
import Derived.Test.YtgbdmpfojiihnaaDoorNumW
import Derived.Test.YtgbdmpfojiihnaaDoorPutA
namespace Go.Proofs.YtgbdmpfojiihnaaDoor.Num
open Go.RowKit Go.Proofs.YtgbdmpfojiihnaaDoor.Kit
set_option linter.unusedVariables false
theorem i64_bounds {n : Int} (h : (Lit.int .i64 n).wf = true) : -9223372036854775808 ≤ n ∧ n ≤ 9223372036854775807 := by
  simp [Lit.wf, IntKind.min, IntKind.max, IntKind.signed, IntKind.bits] at h
  omega
theorem infoByte : (Tryd.prog.info? 5).map (fun i => (i.zero, i.size, i.bytes)) = some (some (.int .u8 0), 1, 1) := by kernel_rfl

set_option maxHeartbeats 400000 in
theorem specPutNum_ok (n b : Nat) (w : World) (hn : (n : Int) ≤ 9223372036854775807) (hb1 : 1 ≤ (b : Int)) (hb4 : (b : Int) ≤ 4) :
    Calls Tryd.prog 43 #[.int .i64 n, .int .i64 b] w fun e w' => e = .returned (.string ⟨(pb b n).toArray⟩) ∧ Below w.heap.size w w' := by
  obtain ⟨i0, hi, hz0, hz1, hz2⟩ := info_parts infoByte
  go_enter Tryd.func43, Tryd.ntmps43
  go_wp2
  go_loopw [5, 6] (fun v i wr => ∃ (j : Nat) (q : Int), j ≤ b ∧ Hid (q = (b : Int) - 1 - j) ∧ i = .int .i64 q ∧ wr.ownsRow w.heap.size 5 1 v j (Lib.byteCells ((pb b n).take j)) ∧ Below w.heap.size w wr) (fun _ i _ => (intOf i + 1).toNat)
  case atStart => exact ⟨0, (b : Int) - 1, by omega, Lib.hid (by omega), rfl, World.ownsRow_lit _ _ _ (Nat.le_refl _) (by unfold maxLen; omega) rfl, (Below.refl _ _).alloc (Nat.le_refl _) _⟩
  case round =>
    obtain ⟨j, q, hj, HQ, rfl, hown, hbel⟩ := hrel
    by_cases hq : 0 ≤ q
    · have hq4 : q ≤ 3 := by have := HQ.out; omega
      go_wp2_with (at_builtin; refine append_one rfl _ _ 22 rfl 5 i0 _ 1 Tryd.underlying22 hi hz0 hz1 hz2 rfl (by decide) rfl hown rfl rfl (by omega) hbel (Nat.le_refl _) ?_; intro v' w' hown' hbel' _ _)
      go_roundw
      case rel =>
        have hQ := HQ.out
        have hjb : j < b := by omega
        refine ⟨j + 1, q - 1, by omega, Lib.hid (by omega), rfl, ?_, hbel'⟩
        rw [pb_take b n j hjb, ← byteCells_snoc, ← shr_eq n b j q hQ hjb]
        exact hown'
      case measure => simp [intOf]; omega
    · have hjb : j = b := by have := HQ.out; omega
      subst hjb
      rw [List.take_of_length_le (by rw [pb_len]; exact Nat.le_refl _)] at hown
      have hcv := convert_row (P := Tryd.prog) 22 9 5 Tryd.underlying22 Tryd.underlying5 Tryd.underlying9 hown
      go_wp2
      go_ret
      exact ⟨rfl, hbel⟩

set_option maxHeartbeats 400000 in
theorem putNum_ok (n b : Nat) (w : World) (hn : (n : Int) ≤ 9223372036854775807) (hb1 : 1 ≤ (b : Int)) (hb4 : (b : Int) ≤ 4) :
    Calls Tryd.prog 47 #[.int .i64 n, .int .i64 b] w fun e w' => e = .returned (.string ⟨(pb b n).toArray⟩) ∧ Below w.heap.size w w' := by
  obtain ⟨i0, hi, hz0, hz1, hz2⟩ := info_parts infoByte
  go_enter Tryd.func47, Tryd.ntmps47
  go_wp2_with (first | (at_make; refine wpList_make_full _ rfl _ _ 22 rfl w.heap.size 5 i0 (.int .u8 0) 1 Tryd.underlying22 hi hz0 hz1 .i64 .i64 _ _ b rfl rfl rfl rfl (by rw [hz2]; omega) (by unfold maxLen; omega) (Nat.le_refl _) ?_; intro w1 hown1 hg1) | go_in)
  have hbel1 : Below w.heap.size w w1 := (Below.refl _ _).grown hg1 (Nat.le_refl _) (fun k e => by cases e)
  go_loopw [0, 6] (fun m i wr => ∃ (j : Nat) (q x : Int), j ≤ b ∧ Hid (q = (b : Int) - 1 - j) ∧ Hid (x = ((n / 256 ^ j : Nat) : Int)) ∧ m = .int .i64 x ∧ i = .int .i64 q ∧ wr.ownsRow w.heap.size 5 1 (.slice (some ⟨w.heap.size, 0, none⟩) b b) b (prow b n j) ∧ Below w.heap.size w wr) (fun _ i _ => (intOf i + 1).toNat)
  case atStart =>
    refine ⟨0, (b : Int) - 1, n, by omega, Lib.hid (by omega), Lib.hid (by simp), rfl, rfl, ?_, hbel1⟩
    have e : (madeCells (Value.int .u8 0).cells (b * 1)).toList = prow b n 0 := by
      unfold prow
      rw [Nat.mul_one]
      show (madeCells #[Value.int .u8 0] b).toList = _
      rw [toList_madeCells_one]
      simp [pb]
    rw [← e]
    exact hown1
  case round =>
    obtain ⟨j, q, x, hj, HQ, HX, rfl, rfl, hown, hbel⟩ := hrel
    by_cases hq : 0 ≤ q
    · have hq4 : q ≤ 3 := by have := HQ.out; omega
      have hqb : q < b := by have := HQ.out; omega
      have hx0 : 0 ≤ x := by rw [HX.out]; exact nat_cast_nonneg _
      have hx1 : x ≤ 9223372036854775807 := by rw [HX.out]; exact div_le n j hn
      have hjb : j < b := by have := HQ.out; omega
      have hqn : q.toNat = b - 1 - j := by have := HQ.out; omega
      have hcell : ∃ u, wr.cell? ⟨w.heap.size, q.toNat, none⟩ = some u := by
        rw [hown.cellAt q.toNat (by omega)]
        exact ⟨_, List.getElem?_eq_getElem (by rw [prow_len b n j hj]; omega)⟩
      obtain ⟨u, hcell⟩ := hcell
      have hfr := hown.frozenAt q.toNat
      have hst := hown.stored q.toNat (.int .u8 (x % 256))
      rw [hqn, prow_set b n j hjb _ (by rw [HX.out]), ← hqn] at hst
      have HS := Lib.hid hst
      have HN := Lib.hid hqn
      clear hst hqn
      go_wp2
      go_roundw
      case rel =>
        have hQ := HQ.out
        exact ⟨j + 1, q - 1, x / 256, by omega, Lib.hid (by omega), Lib.hid (by rw [HX.out]; exact div_step n j), rfl, rfl, HS.out.1, hbel.grown HS.out.2 hbel.size (fun k e => by cases e; exact Nat.le_refl _)⟩
      case measure => simp [intOf]; omega
    · have hjb : j = b := by have := HQ.out; omega
      subst hjb
      have hcv := convert_row (P := Tryd.prog) (l := pb j n) 22 9 5 Tryd.underlying22 Tryd.underlying5 Tryd.underlying9 (by have h := hown; unfold prow at h; simpa [Lib.byteCells] using h)
      go_wp2
      go_ret
      exact ⟨rfl, hbel⟩

set_option maxHeartbeats 400000 in
theorem specPutNum_bad (n b : Int) (w : World) (hb : ¬ putOk n b) :
    Calls Tryd.prog 43 #[.int .i64 n, .int .i64 b] w fun e w' => e = .returned (.string ⟨#[]⟩) ∧ Below w.heap.size w w' := by
  unfold putOk at hb
  by_cases h0 : n < 0
  · clear hb
    go_enter Tryd.func43, Tryd.ntmps43
    go_wp2
    go_ret
    exact ⟨rfl, Below.refl _ _⟩
  by_cases h1 : b < 1
  · clear hb
    go_enter Tryd.func43, Tryd.ntmps43
    go_wp2
    go_ret
    exact ⟨rfl, Below.refl _ _⟩
  · have h4 : 4 < b := by omega
    have hd4 : decide (b ≤ 4) = false := by simp; omega
    clear hb
    go_enter Tryd.func43, Tryd.ntmps43
    go_wp2
    go_ret
    exact ⟨rfl, Below.refl _ _⟩

theorem specPutNum_any (n b : Int) (w : World) (wn : (Lit.int .i64 n).wf = true) :
    Calls Tryd.prog 43 #[.int .i64 n, .int .i64 b] w fun e w' => e = .returned (.string ⟨(putVal n b).toArray⟩) ∧ Below w.heap.size w w' := by
  have hwf := i64_bounds wn
  by_cases h : putOk n b
  · rw [putVal_ok h]
    unfold putOk at h
    obtain ⟨n, rfl⟩ := Int.eq_ofNat_of_zero_le h.1
    obtain ⟨b, rfl⟩ := Int.eq_ofNat_of_zero_le (show 0 ≤ b by omega)
    exact specPutNum_ok n b w (by omega) h.2.1 h.2.2
  · rw [putVal_bad h]
    exact specPutNum_bad n b w h

set_option maxHeartbeats 400000 in
theorem putNum_bad (n b : Int) (w : World) (hb : ¬ putOk n b) :
    Calls Tryd.prog 47 #[.int .i64 n, .int .i64 b] w fun e w' => e = .returned (.string ⟨#[]⟩) ∧ Below w.heap.size w w' := by
  unfold putOk at hb
  by_cases h0 : n < 0
  · clear hb
    go_enter Tryd.func47, Tryd.ntmps47
    go_wp2
    go_ret
    exact ⟨rfl, Below.refl _ _⟩
  by_cases h1 : b < 1
  · clear hb
    go_enter Tryd.func47, Tryd.ntmps47
    go_wp2
    go_ret
    exact ⟨rfl, Below.refl _ _⟩
  · have h4 : 4 < b := by omega
    have hd4 : decide (b ≤ 4) = false := by simp; omega
    clear hb
    go_enter Tryd.func47, Tryd.ntmps47
    go_wp2
    go_ret
    exact ⟨rfl, Below.refl _ _⟩

theorem putNum_any (n b : Int) (w : World) (wn : (Lit.int .i64 n).wf = true) :
    Calls Tryd.prog 47 #[.int .i64 n, .int .i64 b] w fun e w' => e = .returned (.string ⟨(putVal n b).toArray⟩) ∧ Below w.heap.size w w' := by
  have hwf := i64_bounds wn
  by_cases h : putOk n b
  · rw [putVal_ok h]
    unfold putOk at h
    obtain ⟨n, rfl⟩ := Int.eq_ofNat_of_zero_le h.1
    obtain ⟨b, rfl⟩ := Int.eq_ofNat_of_zero_le (show 0 ≤ b by omega)
    exact putNum_ok n b w (by omega) h.2.1 h.2.2
  · rw [putVal_bad h]
    exact putNum_bad n b w h

end Go.Proofs.YtgbdmpfojiihnaaDoor.Num
