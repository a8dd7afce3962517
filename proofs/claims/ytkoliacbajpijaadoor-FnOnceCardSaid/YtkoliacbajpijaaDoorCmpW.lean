/-
  The walks of compareTimers, timerOk and what they call.
-/
import Derived.Test.YtkoliacbajpijaaDoorTimA
import Derived.Deep.RegionHeld3
import Derived.Sort.Grow
namespace Go.Proofs.YtkoliacbajpijaaDoor.Whl
open Go.RowKit
set_option linter.unusedVariables false

def cmpI (x y : Int) : Int := if x < y then -1 else if y < x then 1 else 0
def orI (x y : Int) : Int := if x = 0 then y else x
def cmpT (a b : T) : Int := orI (cmpI a.1 b.1) (cmpI a.2 b.2)
theorem cmpT_lt (a b : T) : cmpT a b < 0 ↔ ahd a b := by
  unfold cmpT orI cmpI ahd
  (repeat' split) <;> omega
theorem cmpT_bd (a b : T) : -1 ≤ cmpT a b ∧ cmpT a b ≤ 1 := by
  unfold cmpT orI cmpI
  (repeat' split) <;> omega
theorem cmpT_zero {a b : T} (h : cmpT a b = 0) : a = b := by
  unfold cmpT orI cmpI at h
  have : a.1 = b.1 ∧ a.2 = b.2 := by
    revert h
    (repeat' split) <;> omega
  exact Prod.ext this.1 this.2

theorem isNaN_any (x : Int) (w : World) : Calls Tryd.prog 70 #[.int .i64 x] w fun e w' => e = .returned (.bool false) ∧ w = w' := by
  go_enter Tryd.func70, Tryd.ntmps70
  go_wp2
  go_ret
  exact ⟨by simp, rfl⟩
theorem compare_any (x y : Int) (w : World) : Calls Tryd.prog 64 #[.int .i64 x, .int .i64 y] w fun e w' => e = .returned (.int .i64 (cmpI x y)) ∧ w = w' := by
  unfold cmpI
  by_cases h1 : x < y
  · have hn : ¬ y < x := by omega
    rw [if_pos h1]
    go_enter Tryd.func64, Tryd.ntmps64
    go_wp2_with (go_at_call 70; refine (isNaN_any _ _).mono ?_; rintro e w' ⟨rfl, rfl⟩)
    go_ret
    exact ⟨rfl, rfl⟩
  · rw [if_neg h1]
    have h1' : decide (x < y) = false := by simpa using h1
    by_cases h2 : y < x
    · rw [if_pos h2]
      go_enter Tryd.func64, Tryd.ntmps64
      go_wp2_with (go_at_call 70; refine (isNaN_any _ _).mono ?_; rintro e w' ⟨rfl, rfl⟩)
      go_ret
      exact ⟨rfl, rfl⟩
    · rw [if_neg h2]
      have h2' : decide (y < x) = false := by simpa using h2
      go_enter Tryd.func64, Tryd.ntmps64
      go_wp2_with (go_at_call 70; refine (isNaN_any _ _).mono ?_; rintro e w' ⟨rfl, rfl⟩)
      go_ret
      exact ⟨rfl, rfl⟩
theorem or_any (x y : Int) (b : Nat) (w : World) (h0 : w.cell? ⟨b, 0, none⟩ = some (.int .i64 x)) (h1 : w.cell? ⟨b, 1, none⟩ = some (.int .i64 y)) :
    Calls Tryd.prog 63 #[.slice (some ⟨b, 0, none⟩) 2 2] w fun e w' => e = .returned (.int .i64 (orI x y)) ∧ w = w' := by
  go_enter Tryd.func63, Tryd.ntmps63
  go_wp2
  go_loop [8] (fun i => ∃ k : Nat, k ≤ 2 ∧ i = .int .i64 k ∧ Hid ((1 ≤ k → x = 0) ∧ (2 ≤ k → y = 0))) (fun i => 2 - (intOf i).toNat)
  case atStart => exact ⟨0, by omega, rfl, Lib.hid ⟨by omega, by omega⟩⟩
  case round =>
    obtain ⟨k, hk, rfl, HZ⟩ := hrel
    have h3 : k = 0 ∨ k = 1 ∨ k = 2 := by omega
    clear hk
    rcases h3 with rfl | rfl | rfl
    · by_cases hx : x = 0
      · have HX := Lib.hid hx
        have hb : (x == 0) = true := by simpa using hx
        have hb2 : (x != 0) = false := by simpa using hx
        clear hx
        go_wp2
        go_round
        case rel => exact ⟨1, by omega, by go_num, Lib.hid ⟨fun _ => HX.out, by omega⟩⟩
        case measure => simp [intOf]
      · have HX := Lib.hid hx
        have hb : (x == 0) = false := by simpa using hx
        have hb2 : (x != 0) = true := by simpa using hx
        clear hx
        go_wp2
        go_ret
        exact ⟨by unfold orI; rw [if_neg HX.out]; rfl, rfl⟩
    · have HX := Lib.hid (HZ.out.1 (by omega))
      by_cases hy : y = 0
      · have HY := Lib.hid hy
        have hb : (y == 0) = true := by simpa using hy
        have hb2 : (y != 0) = false := by simpa using hy
        clear hy
        go_wp2
        go_round
        case rel => exact ⟨2, by omega, by go_num, Lib.hid ⟨fun _ => HX.out, fun _ => HY.out⟩⟩
        case measure => simp [intOf]
      · have HY := Lib.hid hy
        have hb : (y == 0) = false := by simpa using hy
        have hb2 : (y != 0) = true := by simpa using hy
        clear hy
        go_wp2
        go_ret
        exact ⟨by unfold orI; rw [if_pos HX.out]; rfl, rfl⟩
    · go_wp2
      go_ret
      exact ⟨by unfold orI; rw [if_pos (HZ.out.1 (by omega)), HZ.out.2 (by omega)]; rfl, rfl⟩
theorem two_new (w : World) (k : Nat) (hk : k = w.heap.size) (u v : Value) (t : TypeId) : (w.alloc (.cells #[u, v] t)).drew.cell? ⟨k, 0, none⟩ = some u ∧ (w.alloc (.cells #[u, v] t)).drew.cell? ⟨k, 1, none⟩ = some v := by
  subst hk
  exact ⟨(Bx.new w u v t).c0, (Bx.new w u v t).c1⟩

theorem alloc3_grow (w : World) (o1 o2 o3 : Obj) : (((w.alloc o1).alloc o2).alloc o3).drew = Sort.grow (w.drewN 1) #[o1, o2, o3] := by
  rw [Sort.alloc_eq_grow, Sort.alloc_eq_grow, Sort.alloc_eq_grow, Sort.grow_grow, Sort.grow_grow]
  rfl

set_option maxHeartbeats 1000000 in
theorem compareTimers_any (x0 y0 x1 y1 : Int) (w : World) :
    Calls Tryd.prog 49 #[.agg #[.int .i64 x0, .int .i64 y0], .agg #[.int .i64 x1, .int .i64 y1]] w fun e w' => e = .returned (.int .i64 (cmpT (x0, y0) (x1, y1))) ∧ ∃ n os, w' = Sort.grow (w.drewN n) os := by
  have HN := Lib.hid (fun u v t => two_new ((w.alloc (.cells #[.int .i64 x0, .int .i64 y0] 28)).alloc (.cells #[.int .i64 x1, .int .i64 y1] 28)) (w.heap.size + 1 + 1) (by simp) u v t)
  go_enter Tryd.func49, Tryd.ntmps49
  go_wp2_with fail
  go_region_held3 (fun w' => w'.cell? ⟨w.heap.size, 0, none⟩ = some (.int .i64 x0) ∧ w'.cell? ⟨w.heap.size, 1, none⟩ = some (.int .i64 y0) ∧ w'.cell? ⟨w.heap.size + 1, 0, none⟩ = some (.int .i64 x1) ∧ w'.cell? ⟨w.heap.size + 1, 1, none⟩ = some (.int .i64 y1))
    (first | go_keep)
    (first
      | (go_at_call 64; refine (compare_any _ _ _).mono ?_; rintro e w' ⟨rfl, rfl⟩)
      | (go_at_call 63; refine (or_any (cmpI x0 x1) (cmpI y0 y1) _ _ (HN.out _ _ _).1 (HN.out _ _ _).2).mono ?_; rintro e w' ⟨rfl, rfl⟩))
  go_wp2
  go_ret
  exact ⟨rfl, 1, _, alloc3_grow w _ _ _⟩
theorem below_grow (w : World) (n : Nat) (os : Array Obj) : Below w.heap.size w (Sort.grow (w.drewN n) os) :=
  ⟨rfl, rfl, rfl, by simp [Sort.grow, World.drewN], fun k hk => by
    show (w.heap ++ os)[k]? = _
    rw [Array.getElem?_append_left hk]⟩
theorem compare_lt (a b : T) (w : World) (h : ahd a b) :
    Calls Tryd.prog 49 #[.agg #[.int .i64 a.1, .int .i64 a.2], .agg #[.int .i64 b.1, .int .i64 b.2]] w fun e w' => (∃ z : Int, z < 0 ∧ e = .returned (.int .i64 z)) ∧ Below w.heap.size w w' :=
  (compareTimers_any a.1 a.2 b.1 b.2 w).mono fun e w' ⟨he, n, os, hw⟩ => ⟨⟨_, (cmpT_lt a b).2 h, he⟩, by rw [hw]; exact below_grow w n os⟩
theorem compare_ge (a b : T) (w : World) (h : ¬ ahd a b) :
    Calls Tryd.prog 49 #[.agg #[.int .i64 a.1, .int .i64 a.2], .agg #[.int .i64 b.1, .int .i64 b.2]] w fun e w' => (∃ z : Int, 0 ≤ z ∧ e = .returned (.int .i64 z)) ∧ Below w.heap.size w w' :=
  (compareTimers_any a.1 a.2 b.1 b.2 w).mono fun e w' ⟨he, n, os, hw⟩ => ⟨⟨_, by have := (cmpT_lt a b).1; exact Int.not_lt.1 (fun hc => h (this hc)), he⟩, by rw [hw]; exact below_grow w n os⟩

theorem timerOk_yes (x y now : Int) (w : World) (h : tOk now (x, y)) :
    Calls Tryd.prog 41 #[.agg #[.int .i64 x, .int .i64 y], .int .i64 now] w fun e w' => e = .returned (.bool true) ∧ Below w.heap.size w w' := by
  unfold tOk at h
  obtain ⟨h1, h2, h3, h4⟩ := h
  simp only at h1 h2 h3 h4
  have h5 : decide (0 < y) = true := by simp; omega
  go_enter Tryd.func41, Tryd.ntmps41
  go_wp2
  go_ret
  exact ⟨rfl, bOne _ _⟩
theorem timerOk_no (x y now : Int) (w : World) (h : ¬ tOk now (x, y)) :
    Calls Tryd.prog 41 #[.agg #[.int .i64 x, .int .i64 y], .int .i64 now] w fun e w' => e = .returned (.bool false) ∧ Below w.heap.size w w' := by
  unfold tOk at h
  simp only at h
  by_cases h1 : now < x
  · by_cases h2 : x ≤ 1000000000
    · by_cases h3 : 1 ≤ y
      · have h4 : decide (y ≤ 9999) = false := by simp; omega
        have h5 : decide (0 < y) = true := by simp; omega
        clear h
        go_enter Tryd.func41, Tryd.ntmps41
        go_wp2
        go_ret
        exact ⟨rfl, bOne _ _⟩
      · have h4 : decide (1 ≤ y) = false := by simp; omega
        have h5 : decide (0 < y) = false := by simp; omega
        clear h
        go_enter Tryd.func41, Tryd.ntmps41
        go_wp2
        go_ret
        exact ⟨rfl, bOne _ _⟩
    · have h4 : decide (x ≤ 1000000000) = false := by simp; omega
      clear h
      go_enter Tryd.func41, Tryd.ntmps41
      go_wp2
      go_ret
      exact ⟨rfl, bOne _ _⟩
  · have h4 : decide (now < x) = false := by simp; omega
    clear h
    go_enter Tryd.func41, Tryd.ntmps41
    go_wp2
    go_ret
    exact ⟨rfl, bOne _ _⟩
end Go.Proofs.YtkoliacbajpijaaDoor.Whl
