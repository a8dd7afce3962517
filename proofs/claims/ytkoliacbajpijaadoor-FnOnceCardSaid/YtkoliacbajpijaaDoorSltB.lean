/-
  The wheel's slots in memory: take, first, begin.
-/
import Derived.Test.YtkoliacbajpijaaDoorSltA
import Derived.Test.YtkoliacbajpijaaDoorTzW
namespace Go.Proofs.YtkoliacbajpijaaDoor.Whl
open Go.RowKit Go.Maps
set_option linter.unusedVariables false

set_option maxHeartbeats 1000000 in
theorem take_walk (w : World) (b : Nat) (C : Nat → Option Value) (Fr : Nat → Bool) (l s bu : Nat) (v : Value)
    (hl5 : (l : Int) < 5) (hs64 : (s : Int) < 64) (hS : SB w b C Fr) (hbu : C (1 + l) = some (.int .u64 bu)) (fbu : Fr (1 + l) = false) (hv : C (6 + l * 64 + s) = some v) (fv : Fr (6 + l * 64 + s) = false) (hvs : ∃ a n c, v = .slice a n c) :
    Calls Tryd.prog 62 #[.pointer (some ⟨b, 0, none⟩), .int .i64 l, .int .i64 s] w fun e w' => e = .returned v ∧
      SB w' b (upd (upd C (6 + l * 64 + s) (some (.slice none 0 0))) (1 + l) (some (.int .u64 (bits BinOp.andNot .u64 bu (IntKind.u64.wrap (2 ^ s)))))) Fr ∧ w.grownBy w' (some b) := by
  obtain ⟨va, vn, vc, rfl⟩ := hvs
  have hl0 : (0 : Int) ≤ (l : Int) := by omega
  have hs0 : (0 : Int) ≤ (s : Int) := by omega
  have HS := Lib.hid hS
  have HCB := Lib.hid hbu
  have HFB := Lib.hid fbu
  have HCV := Lib.hid hv
  have kv := (hS.cell (6 + l * 64 + s)).trans hv
  have kf := (hS.fro (6 + l * 64 + s)).trans fv
  clear hS hbu fbu hv fv
  go_enter Tryd.func62, Tryd.ntmps62
  go_wp2_with fail
  have HS1 := Lib.hid (HS.out.store (6 + l * 64 + s) _ (.slice none 0 0) HCV.out)
  have HG1 := Lib.hid (setCell_grown w b (6 + l * 64 + s) (.slice none 0 0))
  obtain ⟨w1, hw1⟩ : ∃ w1, w1 = w.setCell ⟨b, 6 + l * 64 + s, none⟩ (.slice none 0 0) := ⟨_, rfl⟩
  rw [← hw1] at HS1 HG1 ⊢
  clear hw1 kv kf
  have kb := (HS1.out.cell (1 + l)).trans ((upd_other _ _ (by omega)).trans HCB.out)
  have kbf := (HS1.out.fro (1 + l)).trans HFB.out
  go_region
  go_wp2_with fail
  go_ret
  refine ⟨rfl, (HS1.out.store (1 + l) (.int .u64 bu) _ ((upd_other _ _ (by omega)).trans HCB.out)).drew, ?_⟩
  exact (HG1.out.trans (setCell_grown w1 b (1 + l) _)).trans (World.grownBy_drew' _ _)

def FirstPost (m : Nat → Nat) (e : Ending) : Prop :=
  (∃ l, l < 5 ∧ m l ≠ 0 ∧ (∀ j, j < l → m j = 0) ∧ e = .returned (.tuple #[.int .i64 (l : Nat), .int .i64 (Lib.ctz 64 (m l) : Nat), .bool true])) ∨ ((∀ j, j < 5 → m j = 0) ∧ e = .returned (.tuple #[.int .i64 0, .int .i64 0, .bool false]))

theorem index_0 (a0 a1 a2 a3 a4 : Int) (w : World) : (Instr.index 67 (.agg #[.int .u64 a0, .int .u64 a1, .int .u64 a2, .int .u64 a3, .int .u64 a4]) (.int .i64 0)).run Tryd.prog w = .ok (.int .u64 a0) w := by kernel_rfl
theorem index_1 (a0 a1 a2 a3 a4 : Int) (w : World) : (Instr.index 67 (.agg #[.int .u64 a0, .int .u64 a1, .int .u64 a2, .int .u64 a3, .int .u64 a4]) (.int .i64 1)).run Tryd.prog w = .ok (.int .u64 a1) w := by kernel_rfl
theorem index_2 (a0 a1 a2 a3 a4 : Int) (w : World) : (Instr.index 67 (.agg #[.int .u64 a0, .int .u64 a1, .int .u64 a2, .int .u64 a3, .int .u64 a4]) (.int .i64 2)).run Tryd.prog w = .ok (.int .u64 a2) w := by kernel_rfl
theorem index_3 (a0 a1 a2 a3 a4 : Int) (w : World) : (Instr.index 67 (.agg #[.int .u64 a0, .int .u64 a1, .int .u64 a2, .int .u64 a3, .int .u64 a4]) (.int .i64 3)).run Tryd.prog w = .ok (.int .u64 a3) w := by kernel_rfl
theorem index_4 (a0 a1 a2 a3 a4 : Int) (w : World) : (Instr.index 67 (.agg #[.int .u64 a0, .int .u64 a1, .int .u64 a2, .int .u64 a3, .int .u64 a4]) (.int .i64 4)).run Tryd.prog w = .ok (.int .u64 a4) w := by kernel_rfl

set_option maxRecDepth 100000 in
set_option maxHeartbeats 1000000 in
theorem first_walk (w : World) (b : Nat) (m : Nat → Nat) (hm : ∀ l, l < 5 → w.cell? ⟨b, 1 + l, none⟩ = some (.int .u64 (m l))) (hlt : ∀ l, l < 5 → m l < 18446744073709551616) (hT : TabD w) :
    Calls Tryd.prog 66 #[.pointer (some ⟨b, 0, none⟩)] w fun e w' => FirstPost m e ∧ w = w' := by
  have HLT := Lib.hid hlt
  have HT := Lib.hid hT
  have c0 := hm 0 (by omega)
  have c1 := hm 1 (by omega)
  have c2 := hm 2 (by omega)
  have c3 := hm 3 (by omega)
  have c4 := hm 4 (by omega)
  simp only [Nat.reduceAdd] at c0 c1 c2 c3 c4
  clear hm hlt hT
  have x0 := index_0 (m 0) (m 1) (m 2) (m 3) (m 4) w
  have x1 := index_1 (m 0) (m 1) (m 2) (m 3) (m 4) w
  have x2 := index_2 (m 0) (m 1) (m 2) (m 3) (m 4) w
  have x3 := index_3 (m 0) (m 1) (m 2) (m 3) (m 4) w
  have x4 := index_4 (m 0) (m 1) (m 2) (m 3) (m 4) w
  go_enter Tryd.func66, Tryd.ntmps66
  go_wp2_with fail
  go_loop [11] (fun i => ∃ k : Nat, k ≤ 5 ∧ i = .int .i64 k ∧ Hid (∀ j, j < k → m j = 0)) (fun i => 5 - (intOf i).toNat)
  case atStart => exact ⟨0, by omega, rfl, Lib.hid (by omega)⟩
  case round =>
    obtain ⟨k, hk, rfl, HZ⟩ := hrel
    have h6 : k = 0 ∨ k = 1 ∨ k = 2 ∨ k = 3 ∨ k = 4 ∨ k = 5 := by omega
    clear hk
    rcases h6 with rfl | rfl | rfl | rfl | rfl | rfl
    · by_cases hz : m 0 = 0
      · have HK := Lib.hid hz
        have hb : (((m 0 : Nat) : Int) == 0) = true := by simp [hz]
        have hb2 : (((m 0 : Nat) : Int) != 0) = false := by simp [hz]
        clear hz
        go_wp2_with fail
        go_round
        case rel =>
          refine ⟨1, by omega, by go_num, Lib.hid (fun j hj => ?_)⟩
          by_cases e : j = 0
          · subst e; exact HK.out
          · exact HZ.out j (by omega)
        case measure => simp [intOf]
      · have HK := Lib.hid hz
        have hb : (((m 0 : Nat) : Int) == 0) = false := by simp [hz]
        have hb2 : (((m 0 : Nat) : Int) != 0) = true := by simp [hz]
        clear hz
        go_wp2_with fail
        refine (tz_any (m 0) (HLT.out 0 (by omega)) HK.out _ HT.out).mono ?_
        rintro e w' ⟨rfl, rfl⟩
        go_wp2_with fail
        go_ret3
        exact ⟨.inl ⟨0, by omega, HK.out, HZ.out, rfl⟩, rfl⟩
    · by_cases hz : m 1 = 0
      · have HK := Lib.hid hz
        have hb : (((m 1 : Nat) : Int) == 0) = true := by simp [hz]
        have hb2 : (((m 1 : Nat) : Int) != 0) = false := by simp [hz]
        clear hz
        go_wp2_with fail
        go_round
        case rel =>
          refine ⟨2, by omega, by go_num, Lib.hid (fun j hj => ?_)⟩
          by_cases e : j = 1
          · subst e; exact HK.out
          · exact HZ.out j (by omega)
        case measure => simp [intOf]
      · have HK := Lib.hid hz
        have hb : (((m 1 : Nat) : Int) == 0) = false := by simp [hz]
        have hb2 : (((m 1 : Nat) : Int) != 0) = true := by simp [hz]
        clear hz
        go_wp2_with fail
        refine (tz_any (m 1) (HLT.out 1 (by omega)) HK.out _ HT.out).mono ?_
        rintro e w' ⟨rfl, rfl⟩
        go_wp2_with fail
        go_ret3
        exact ⟨.inl ⟨1, by omega, HK.out, HZ.out, rfl⟩, rfl⟩
    · by_cases hz : m 2 = 0
      · have HK := Lib.hid hz
        have hb : (((m 2 : Nat) : Int) == 0) = true := by simp [hz]
        have hb2 : (((m 2 : Nat) : Int) != 0) = false := by simp [hz]
        clear hz
        go_wp2_with fail
        go_round
        case rel =>
          refine ⟨3, by omega, by go_num, Lib.hid (fun j hj => ?_)⟩
          by_cases e : j = 2
          · subst e; exact HK.out
          · exact HZ.out j (by omega)
        case measure => simp [intOf]
      · have HK := Lib.hid hz
        have hb : (((m 2 : Nat) : Int) == 0) = false := by simp [hz]
        have hb2 : (((m 2 : Nat) : Int) != 0) = true := by simp [hz]
        clear hz
        go_wp2_with fail
        refine (tz_any (m 2) (HLT.out 2 (by omega)) HK.out _ HT.out).mono ?_
        rintro e w' ⟨rfl, rfl⟩
        go_wp2_with fail
        go_ret3
        exact ⟨.inl ⟨2, by omega, HK.out, HZ.out, rfl⟩, rfl⟩
    · by_cases hz : m 3 = 0
      · have HK := Lib.hid hz
        have hb : (((m 3 : Nat) : Int) == 0) = true := by simp [hz]
        have hb2 : (((m 3 : Nat) : Int) != 0) = false := by simp [hz]
        clear hz
        go_wp2_with fail
        go_round
        case rel =>
          refine ⟨4, by omega, by go_num, Lib.hid (fun j hj => ?_)⟩
          by_cases e : j = 3
          · subst e; exact HK.out
          · exact HZ.out j (by omega)
        case measure => simp [intOf]
      · have HK := Lib.hid hz
        have hb : (((m 3 : Nat) : Int) == 0) = false := by simp [hz]
        have hb2 : (((m 3 : Nat) : Int) != 0) = true := by simp [hz]
        clear hz
        go_wp2_with fail
        refine (tz_any (m 3) (HLT.out 3 (by omega)) HK.out _ HT.out).mono ?_
        rintro e w' ⟨rfl, rfl⟩
        go_wp2_with fail
        go_ret3
        exact ⟨.inl ⟨3, by omega, HK.out, HZ.out, rfl⟩, rfl⟩
    · by_cases hz : m 4 = 0
      · have HK := Lib.hid hz
        have hb : (((m 4 : Nat) : Int) == 0) = true := by simp [hz]
        have hb2 : (((m 4 : Nat) : Int) != 0) = false := by simp [hz]
        clear hz
        go_wp2_with fail
        go_round
        case rel =>
          refine ⟨5, by omega, by go_num, Lib.hid (fun j hj => ?_)⟩
          by_cases e : j = 4
          · subst e; exact HK.out
          · exact HZ.out j (by omega)
        case measure => simp [intOf]
      · have HK := Lib.hid hz
        have hb : (((m 4 : Nat) : Int) == 0) = false := by simp [hz]
        have hb2 : (((m 4 : Nat) : Int) != 0) = true := by simp [hz]
        clear hz
        go_wp2_with fail
        refine (tz_any (m 4) (HLT.out 4 (by omega)) HK.out _ HT.out).mono ?_
        rintro e w' ⟨rfl, rfl⟩
        go_wp2_with fail
        go_ret3
        exact ⟨.inl ⟨4, by omega, HK.out, HZ.out, rfl⟩, rfl⟩
    · go_wp2_with fail
      go_ret3
      exact ⟨.inr ⟨HZ.out, rfl⟩, rfl⟩

theorem or_sum (a b k : Nat) (hb : b < 2 ^ k) (h : 2 ^ k * a + b < 9223372036854775808) : bits BinOp.or .i64 ((2 ^ k * a : Nat) : Int) (b : Int) = ((2 ^ k * a + b : Nat) : Int) := by
  have e1 : (BitVec.ofInt 64 ((2 ^ k * a : Nat) : Int) ||| BitVec.ofInt 64 (b : Int)).toNat = 2 ^ k * a + b := by
    rw [BitVec.toNat_or]
    have a1 : (BitVec.ofInt 64 ((2 ^ k * a : Nat) : Int)).toNat = 2 ^ k * a := by
      rw [BitVec.ofInt_natCast, BitVec.toNat_ofNat]; exact Nat.mod_eq_of_lt (by omega)
    have a2 : (BitVec.ofInt 64 (b : Int)).toNat = b := by
      rw [BitVec.ofInt_natCast, BitVec.toNat_ofNat]; exact Nat.mod_eq_of_lt (by omega)
    rw [a1, a2, Nat.two_pow_add_eq_or_of_lt hb]
  unfold bits
  show IntKind.i64.wrap ((BitVec.ofInt 64 ((2 ^ k * a : Nat) : Int) ||| BitVec.ofInt 64 (b : Int)).toNat : Int) = _
  rw [e1]
  exact IntWalk.i64_in _ (by omega)

set_option maxHeartbeats 1000000 in
theorem begin_walk (w : World) (b now s l : Nat) (hn : now ≤ 1000000000) (hs : s < 64) (hl : l ≤ 4) (hc : w.cell? ⟨b, 0, none⟩ = some (.int .i64 (now : Int))) :
    Calls Tryd.prog 67 #[.pointer (some ⟨b, 0, none⟩), .int .i64 (l : Int), .int .i64 (s : Int)] w fun e w' => e = .returned (.int .i64 (bgn (now : Int) l (s : Int))) ∧ ∃ n, w' = w.drewN n := by
  rcases five hl with rfl | rfl | rfl | rfl | rfl
  · clear hl
    have ho : bits BinOp.or .i64 ((now : Int) / 64 * 64) (s : Int) = (now : Int) / 64 * 64 + (s : Int) := by
      have h := or_sum (now / 64) s 6 (by rw [show (2 : Nat) ^ 6 = 64 from rfl]; omega) (by rw [show (2 : Nat) ^ 6 = 64 from rfl]; omega)
      rw [show (2 : Nat) ^ 6 = 64 from rfl] at h
      have e1 : ((64 * (now / 64) : Nat) : Int) = (now : Int) / 64 * 64 := by omega
      have e2 : ((64 * (now / 64) + s : Nat) : Int) = (now : Int) / 64 * 64 + (s : Int) := by omega
      rw [e1, e2] at h
      exact h
    go_enter Tryd.func67, Tryd.ntmps67
    go_wp2_with fail
    go_quiet (fail)
    go_wp2_with fail
    go_ret
    exact ⟨rfl, nq, rfl⟩
  · clear hl
    have ho : bits BinOp.or .i64 ((now : Int) / 4096 * 4096) ((s : Int) * 64) = (now : Int) / 4096 * 4096 + ((s : Int) * 64) := by
      have h := or_sum (now / 4096) (s * 64) 12 (by rw [show (2 : Nat) ^ 12 = 4096 from rfl]; omega) (by rw [show (2 : Nat) ^ 12 = 4096 from rfl]; omega)
      rw [show (2 : Nat) ^ 12 = 4096 from rfl] at h
      have e1 : ((4096 * (now / 4096) : Nat) : Int) = (now : Int) / 4096 * 4096 := by omega
      have e2 : ((4096 * (now / 4096) + (s * 64) : Nat) : Int) = (now : Int) / 4096 * 4096 + ((s : Int) * 64) := by omega
      rw [e1, e2] at h
      rw [show ((s * 64 : Nat) : Int) = (s : Int) * 64 by omega] at h; exact h
    go_enter Tryd.func67, Tryd.ntmps67
    go_wp2_with fail
    go_quiet (fail)
    go_wp2_with fail
    go_ret
    exact ⟨rfl, nq, rfl⟩
  · clear hl
    have ho : bits BinOp.or .i64 ((now : Int) / 262144 * 262144) ((s : Int) * 4096) = (now : Int) / 262144 * 262144 + ((s : Int) * 4096) := by
      have h := or_sum (now / 262144) (s * 4096) 18 (by rw [show (2 : Nat) ^ 18 = 262144 from rfl]; omega) (by rw [show (2 : Nat) ^ 18 = 262144 from rfl]; omega)
      rw [show (2 : Nat) ^ 18 = 262144 from rfl] at h
      have e1 : ((262144 * (now / 262144) : Nat) : Int) = (now : Int) / 262144 * 262144 := by omega
      have e2 : ((262144 * (now / 262144) + (s * 4096) : Nat) : Int) = (now : Int) / 262144 * 262144 + ((s : Int) * 4096) := by omega
      rw [e1, e2] at h
      rw [show ((s * 4096 : Nat) : Int) = (s : Int) * 4096 by omega] at h; exact h
    go_enter Tryd.func67, Tryd.ntmps67
    go_wp2_with fail
    go_quiet (fail)
    go_wp2_with fail
    go_ret
    exact ⟨rfl, nq, rfl⟩
  · clear hl
    have ho : bits BinOp.or .i64 ((now : Int) / 16777216 * 16777216) ((s : Int) * 262144) = (now : Int) / 16777216 * 16777216 + ((s : Int) * 262144) := by
      have h := or_sum (now / 16777216) (s * 262144) 24 (by rw [show (2 : Nat) ^ 24 = 16777216 from rfl]; omega) (by rw [show (2 : Nat) ^ 24 = 16777216 from rfl]; omega)
      rw [show (2 : Nat) ^ 24 = 16777216 from rfl] at h
      have e1 : ((16777216 * (now / 16777216) : Nat) : Int) = (now : Int) / 16777216 * 16777216 := by omega
      have e2 : ((16777216 * (now / 16777216) + (s * 262144) : Nat) : Int) = (now : Int) / 16777216 * 16777216 + ((s : Int) * 262144) := by omega
      rw [e1, e2] at h
      rw [show ((s * 262144 : Nat) : Int) = (s : Int) * 262144 by omega] at h; exact h
    go_enter Tryd.func67, Tryd.ntmps67
    go_wp2_with fail
    go_quiet (fail)
    go_wp2_with fail
    go_ret
    exact ⟨rfl, nq, rfl⟩
  · clear hl
    have ho : bits BinOp.or .i64 ((now : Int) / 1073741824 * 1073741824) ((s : Int) * 16777216) = (now : Int) / 1073741824 * 1073741824 + ((s : Int) * 16777216) := by
      have h := or_sum (now / 1073741824) (s * 16777216) 30 (by rw [show (2 : Nat) ^ 30 = 1073741824 from rfl]; omega) (by rw [show (2 : Nat) ^ 30 = 1073741824 from rfl]; omega)
      rw [show (2 : Nat) ^ 30 = 1073741824 from rfl] at h
      have e1 : ((1073741824 * (now / 1073741824) : Nat) : Int) = (now : Int) / 1073741824 * 1073741824 := by omega
      have e2 : ((1073741824 * (now / 1073741824) + (s * 16777216) : Nat) : Int) = (now : Int) / 1073741824 * 1073741824 + ((s : Int) * 16777216) := by omega
      rw [e1, e2] at h
      rw [show ((s * 16777216 : Nat) : Int) = (s : Int) * 16777216 by omega] at h; exact h
    go_enter Tryd.func67, Tryd.ntmps67
    go_wp2_with fail
    go_quiet (fail)
    go_wp2_with fail
    go_ret
    exact ⟨rfl, nq, rfl⟩
end Go.Proofs.YtkoliacbajpijaaDoor.Whl
