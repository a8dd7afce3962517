/-
  What the exact laws do with wheels: measured, copied, compared.
-/
import Derived.Test.YtkoliacbajpijaaDoorTimA
import Derived.Deep.RegionHeld3
namespace Go.Proofs.YtkoliacbajpijaaDoor.Whl
open Go.RowKit
set_option linter.unusedVariables false

theorem infoTimer : (Tryd.prog.info? 28).map (fun i => (i.zero, i.size, i.bytes)) = some (some (.agg #[.int .i64 0, .int .i64 0]), 2, 16) := by kernel_rfl

theorem toTimer_any (w : World) (x y : Int) :
    Calls Tryd.prog 31 #[.agg #[.int .i64 x, .int .i64 y]] w fun e w' => e = .returned (.agg #[.int .i64 x, .int .i64 y]) ∧ Below w.heap.size w w' := by
  go_enter Tryd.func31, Tryd.ntmps31
  go_wp2
  exact bodyPost_ret (v := .agg #[.int .i64 x, .int .i64 y]) (by simp [results, Tryd.results31, go_sem]) rfl
    ⟨rfl, (((Below.refl _ _).alloc (Nat.le_refl _) _).alloc (by simp) _).alloc (by simp; omega) _⟩
theorem eqTimer_yes (w : World) (x y : Int) :
    Calls Tryd.prog 69 #[.agg #[.int .i64 x, .int .i64 y], .agg #[.int .i64 x, .int .i64 y]] w fun e w' => e = .returned (.bool true) ∧ Below w.heap.size w w' := by
  go_enter Tryd.func69, Tryd.ntmps69
  go_wp2
  go_ret
  exact ⟨rfl, ((Below.refl _ _).alloc (Nat.le_refl _) _).alloc (by simp) _⟩

theorem set_next (l : List T) (j : Nat) (h : j < l.length) (x y : Int) (hx : x = l[j].1) (hy : y = l[j].2) :
    (l.take j ++ List.replicate (l.length - j) ((0 : Int), (0 : Int))).set j (x, y) = l.take (j + 1) ++ List.replicate (l.length - (j + 1)) (0, 0) := by
  subst hx hy
  have e : l.length - j = (l.length - (j + 1)) + 1 := by omega
  rw [e, List.replicate_succ, List.set_append_right _ _ (by simp; omega)]
  have e2 : j - (l.take j).length = 0 := by simp; omega
  rw [e2, List.set_cons_zero, List.take_succ_eq_append_getElem h, List.append_assoc]
  rfl

theorem lt3 {n m : Nat} (h : n + 3 ≤ m) : n + 1 < m ∧ n + 1 + 1 < m ∧ n < m := by omega

set_option maxHeartbeats 400000 in
theorem toTimerS_any (w : World) (B : Nat) (a : Option Addr) (len cap : Nat) (l : List T) (h : TIs B w a len l) (hB : B ≤ w.heap.size) (hlen : len ≤ 1048576) :
    Calls Tryd.prog 54 #[.slice a len cap] w fun e w' => (∃ a' cap', e = .returned (.slice a' l.length cap') ∧ TOwn w.heap.size w' 28 (.slice a' l.length cap') l) ∧ Below w.heap.size w w' := by
  obtain ⟨i0, hi, hz0, hz1, hz2⟩ := info_parts infoTimer
  have hl := h.hlen
  have HT := Lib.hid h
  have HL := Lib.hid hl
  clear h
  go_enter Tryd.func54, Tryd.ntmps54
  go_wp2_with (first | (at_make; refine wpList_make_full _ rfl _ _ 24 rfl w.heap.size 28 i0 (.agg #[.int .i64 0, .int .i64 0]) 2 Tryd.underlying24 hi hz0 hz1 .i64 .i64 _ _ len rfl rfl rfl rfl (by rw [hz2]; omega) (by unfold maxLen; omega) (Nat.le_refl _) ?_; intro w1 hown1 hg1) | go_in)
  have hbel1 : Below w.heap.size w w1 := (Below.refl _ _).grown hg1 (Nat.le_refl _) (fun k e => by cases e)
  rw [flat_made] at hown1
  have hown1' : TOwn w.heap.size w1 28 (.slice (some ⟨w.heap.size, 0, none⟩) len len) (l.take 0 ++ List.replicate (l.length - 0) (0, 0)) := by
    unfold TOwn
    simpa [hl] using hown1
  clear hl hown1
  go_loopw [4] (fun i wr => ∃ j : Nat, j ≤ len ∧ i = .int .i64 j ∧ Hid (TOwn w.heap.size wr 28 (.slice (some ⟨w.heap.size, 0, none⟩) len len) (l.take j ++ List.replicate (l.length - j) (0, 0))) ∧ Below w.heap.size w wr) (fun i _ => len - (intOf i).toNat)
  case atStart => exact ⟨0, by omega, rfl, Lib.hid hown1', hbel1⟩
  case round =>
    obtain ⟨j, hj, rfl, HO, hbel⟩ := hrel
    by_cases hlt : (j : Int) < (len : Int)
    · have hjl : j < l.length := by have := HL.out; omega
      obtain ⟨b, off, rfl, hb, c0, c1⟩ := (HT.out.below (hbel.mono hB)).cell j hjl
      obtain ⟨x, hx⟩ : ∃ x, x = l[j].1 := ⟨_, rfl⟩
      obtain ⟨y, hy⟩ : ∃ y, y = l[j].2 := ⟨_, rfl⟩
      rw [← hx] at c0
      rw [← hy] at c1
      have HX := Lib.hid hx
      have HY := Lib.hid hy
      clear hx hy
      go_wp2_with fail
      refine (toTimer_any _ x y).mono ?_
      rintro e w2 ⟨rfl, hb2⟩
      have ho2 := HO.out.below hb2
      have hjj : j < (l.take j ++ List.replicate (l.length - j) ((0 : Int), (0 : Int))).length := by simp; omega
      obtain ⟨d0, d1, f0, f1⟩ := ho2.cellAt j hjj
      obtain ⟨z0, hz0'⟩ : ∃ z, z = (l.take j ++ List.replicate (l.length - j) ((0 : Int), (0 : Int)))[j].1 := ⟨_, rfl⟩
      obtain ⟨z1, hz1'⟩ : ∃ z, z = (l.take j ++ List.replicate (l.length - j) ((0 : Int), (0 : Int)))[j].2 := ⟨_, rfl⟩
      rw [← hz0'] at d0
      rw [← hz1'] at d1
      have hst := ho2.set j hjj x y
      rw [set_next l j hjl x y HX.out HY.out] at hst
      have hbel2 := hbel.trans (hb2.mono hbel.size)
      have HS := Lib.hid hst
      have HW2 := Lib.hid hbel2
      clear hst ho2 hz0' hz1' hjj hbel2 HX HY
      go_wp2_with fail
      go_roundw
      case rel => exact ⟨j + 1, by omega, by go_num, Lib.hid HS.out.1, HW2.out.grown HS.out.2 (by have := HW2.out.size; omega) (fun k e => by cases e; exact Nat.le_refl _)⟩
      case measure => simp [intOf]; omega
    · have hjl : j = l.length := by have := HL.out; omega
      have hfin : l.take j ++ List.replicate (l.length - j) ((0 : Int), (0 : Int)) = l := by rw [hjl]; simp
      have HO' := Lib.hid (hfin ▸ HO.out)
      clear HO hfin hjl
      go_wp2
      go_ret
      have hn := HL.out
      exact ⟨⟨_, _, by rw [hn]; rfl, by have := HO'.out; rwa [hn]⟩, hbel⟩

theorem below_keep {B : Nat} {w1 w2 : World} (hb : Below w1.heap.size w1 w2) (hB : B ≤ w1.heap.size) {a : Addr} {v : Value} (hlt : a.block < B) (h : w1.cell? a = some v) : w2.cell? a = some v :=
  (hb.cell (p := a) (by omega)).trans h
theorem below_drew' {B : Nat} {a w : World} (h : Below B a w) : Below B a w.drew := ⟨h.os, h.tape, h.output, h.size, h.block⟩

set_option maxHeartbeats 400000 in
theorem eqTimerS_yes (w : World) (B : Nat) (a1 a2 : Option Addr) (len c1 c2 : Nat) (l : List T) (h1 : TIs B w a1 len l) (h2 : TIs B w a2 len l) (hB : B ≤ w.heap.size) :
    Calls Tryd.prog 55 #[.slice a1 len c1, .slice a2 len c2] w fun e w' => e = .returned (.bool true) ∧ Below w.heap.size w w' := by
  have hl := h1.hlen
  have hle := h1.le
  unfold maxLen at hle
  have H1 := Lib.hid h1
  have H2 := Lib.hid h2
  have HL := Lib.hid hl
  clear h1 h2 hl
  go_enter Tryd.func55, Tryd.ntmps55
  go_wp2
  go_loopw [5] (fun i wr => ∃ j : Nat, j ≤ len ∧ i = .int .i64 j ∧ Below w.heap.size w wr) (fun i _ => len - (intOf i).toNat)
  case atStart => exact ⟨0, by omega, rfl, Below.refl _ _⟩
  case round =>
    obtain ⟨j, hj, rfl, hbel⟩ := hrel
    have hsz := hbel.size
    by_cases hlt : (j : Int) < (len : Int)
    · have hjl : j < l.length := by have := HL.out; omega
      obtain ⟨b1, o1, e1, hb1, c0, c1⟩ := (H1.out.below (hbel.mono hB)).cell j hjl
      obtain ⟨b2, o2, e2, hb2, d0, d1⟩ := (H2.out.below (hbel.mono hB)).cell j hjl
      obtain ⟨x, hx⟩ : ∃ x, x = l[j].1 := ⟨_, rfl⟩
      obtain ⟨y, hy⟩ : ∃ y, y = l[j].2 := ⟨_, rfl⟩
      rw [← hx] at c0 d0
      rw [← hy] at c1 d1
      clear hx hy
      subst e1 e2
      have hs1 : b1 < wr.heap.size := by omega
      have hs2 : b2 < wr.heap.size := by omega
      go_wp2
      go_region_held3 (fun w' => w'.cell? ⟨b1, o1 + j * 2, none⟩ = some (.int .i64 x) ∧ w'.cell? ⟨b1, o1 + j * 2 + 1, none⟩ = some (.int .i64 y) ∧ w'.cell? ⟨b2, o2 + j * 2, none⟩ = some (.int .i64 x) ∧ w'.cell? ⟨b2, o2 + j * 2 + 1, none⟩ = some (.int .i64 y))
        (first | go_keep | (go_split_ands; exact ⟨below_keep hb3 (Nat.le_refl _) hs1 ‹_›, below_keep hb3 (Nat.le_refl _) hs1 ‹_›, below_keep hb3 (Nat.le_refl _) hs2 ‹_›, below_keep hb3 (Nat.le_refl _) hs2 ‹_›⟩))
        (first | (go_at_call 69; refine (eqTimer_yes _ x y).mono ?_; rintro e w3 ⟨rfl, hb3⟩))
      go_wp2
      go_roundw
      case rel => exact ⟨j + 1, by omega, by go_num, (below_drew' hbel).trans (hb3.mono (by simpa using hsz))⟩
      case measure => simp [intOf]; omega
    · go_wp2
      go_ret
      exact ⟨rfl, hbel⟩

theorem eqWheel_yes (w : World) (B : Nat) (a1 a2 : Option Addr) (len c1 c2 : Nat) (now : Int) (l : List T) (h1 : TIs B w a1 len l) (h2 : TIs B w a2 len l) (hB : B ≤ w.heap.size) :
    Calls Tryd.prog 32 #[.agg #[.int .i64 now, .slice a1 len c1], .agg #[.int .i64 now, .slice a2 len c2]] w fun e w' => e = .returned (.bool true) ∧ Below w.heap.size w w' := by
  have hb0 : ∀ o1 o2, Below w.heap.size w ((w.alloc o1).alloc o2) := fun o1 o2 => ((Below.refl _ _).alloc (Nat.le_refl _) _).alloc (by simp) _
  have H0 := Lib.hid hb0
  have H1 := Lib.hid h1
  have H2 := Lib.hid h2
  clear h1 h2 hb0
  go_enter Tryd.func32, Tryd.ntmps32
  go_wp2_with fail
  refine (eqTimerS_yes _ B a1 a2 len c1 c2 l (H1.out.below ((H0.out _ _).mono hB)) (H2.out.below ((H0.out _ _).mono hB)) (by simp; omega)).mono ?_
  rintro e w3 ⟨rfl, hb3⟩
  go_wp2_with fail
  go_ret
  exact ⟨rfl, (H0.out _ _).trans (hb3.mono (by simp; omega))⟩

theorem toWheel_any (w : World) (B : Nat) (a : Option Addr) (len cap : Nat) (now : Int) (l : List T) (h : TIs B w a len l) (hB : B ≤ w.heap.size) (hlen : len ≤ 1048576) :
    Calls Tryd.prog 30 #[.agg #[.int .i64 now, .slice a len cap]] w fun e w' => (∃ a' cap', e = .returned (.agg #[.int .i64 now, .slice a' l.length cap']) ∧ TOwn w.heap.size w' 28 (.slice a' l.length cap') l) ∧ Below w.heap.size w w' := by
  have hb0 : ∀ o1 o2 o3, Below w.heap.size w (((w.alloc o1).alloc o2).alloc o3) := fun o1 o2 o3 => (((Below.refl _ _).alloc (Nat.le_refl _) _).alloc (by simp) _).alloc (by simp; omega) _
  have H0 := Lib.hid hb0
  have H1 := Lib.hid h
  clear h hb0
  go_enter Tryd.func30, Tryd.ntmps30
  go_wp2_with fail
  refine (toTimerS_any _ B a len cap l (H1.out.below ((H0.out _ _ _).mono hB)) (by simp; omega) hlen).mono ?_
  rintro e w3 ⟨⟨a', cap', rfl, ho⟩, hb3⟩
  obtain ⟨hc, hf⟩ := bcell hb3
  have hz : w.heap.size + 3 ≤ w3.heap.size := by have := hb3.size; simp at this; omega
  have HB3 := Lib.hid hb3
  have HO := Lib.hid ho
  clear hb3 ho
  go_wp2_with fail
  refine bodyPost_ret (v := .agg #[.int .i64 now, .slice a' l.length cap']) (by simp [results, Tryd.results30, go_sem, hc]) rfl ⟨⟨a', cap', rfl, ?_⟩, ?_⟩
  · exact (((HO.out.setLow (by simp) _).setLow (by simp) _).setLow (by simp) _).base (by simp; omega)
  · exact ((((H0.out _ _ _).trans (HB3.out.mono (by simp; omega))).setCell (by simp; omega) _).setCell (by simp) _).setCell (by simp) _

theorem szTimerS_any (w : World) (a : Option Addr) (len cap : Nat) (hl : len ≤ maxLen) :
    Calls Tryd.prog 53 #[.slice a len cap, .int .i64 1048576] w fun e w' => e = .returned (.int .i64 (if len ≤ 1048576 then 1048576 - (len : Int) else -1)) ∧ w = w' := by
  unfold maxLen at hl
  by_cases h : (1048576 : Int) - len < 0
  · rw [if_neg (by omega)]
    go_enter Tryd.func53, Tryd.ntmps53
    go_wp2
    go_ret
    exact ⟨rfl, rfl⟩
  · rw [if_pos (by omega)]
    go_enter Tryd.func53, Tryd.ntmps53
    go_wp2
    go_ret
    exact ⟨rfl, rfl⟩
theorem szWheel_big (w : World) (a : Option Addr) (len cap : Nat) (now : Int) (hl : len ≤ maxLen) (hb : 1048576 < len) :
    Calls Tryd.prog 29 #[.agg #[.int .i64 now, .slice a len cap], .int .i64 1048576] w fun e w' => e = .returned (.int .i64 (-1)) ∧ Below w.heap.size w w' := by
  have HL := Lib.hid hl
  have HB := Lib.hid hb
  clear hl hb
  go_enter Tryd.func29, Tryd.ntmps29
  go_wp2_with fail
  refine (szTimerS_any _ a len cap HL.out).mono ?_
  rintro e w' ⟨rfl, rfl⟩
  rw [if_neg (by have := HB.out; omega)]
  go_wp2_with fail
  go_ret
  exact ⟨rfl, (Below.refl _ _).alloc (Nat.le_refl _) _⟩
theorem szWheel_small (w : World) (a : Option Addr) (len cap : Nat) (now : Int) (hl : len ≤ 1048576) :
    Calls Tryd.prog 29 #[.agg #[.int .i64 now, .slice a len cap], .int .i64 1048576] w fun e w' => (∃ x : Int, 0 ≤ x ∧ e = .returned (.int .i64 x)) ∧ Below w.heap.size w w' := by
  have HL := Lib.hid hl
  obtain ⟨x, hx⟩ : ∃ x : Int, x = 1048576 - (len : Int) := ⟨_, rfl⟩
  have hx0 : 0 ≤ x := by omega
  have HX := Lib.hid hx
  clear hl hx
  go_enter Tryd.func29, Tryd.ntmps29
  go_wp2_with fail
  refine (szTimerS_any _ a len cap (by have := HL.out; unfold maxLen; omega)).mono ?_
  rintro e w' ⟨rfl, rfl⟩
  rw [if_pos HL.out, ← HX.out]
  go_wp2_with fail
  go_ret
  exact ⟨⟨x, hx0, rfl⟩, (Below.refl _ _).alloc (Nat.le_refl _) _⟩
end Go.Proofs.YtkoliacbajpijaaDoor.Whl
