/-
  The walks of the draws: what each returns, as far as a law wants it, and that it writes nothing but its own cursor.
-/
import Derived.Test.YtecfomaapomncaaProg
import Derived.Test.YtecfomaapomncaaKit
import Derived.Test.YtecfomaapomncaaDrawA
import Derived.WalkLawsBesides
import Derived.Deep.QuietTactic
import Derived.BigQuiet
namespace Go.Proofs.Ytecfomaapomncaa.Draw
open Go.RowKit Go.Proofs.Ytecfomaapomncaa.Kit
set_option linter.unusedVariables false

set_option maxHeartbeats 400000 in
theorem byte_any (w : World) (cb B : Nat) (a : Option Addr) (len cap : Nat) (hc : Cur w cb 91 a len cap) (hB : B ≤ cb) (hcode : CodeAt B w a len cap) :
    Calls Try.prog 95 #[.pointer (some ⟨cb, 0, none⟩)] w fun e w' => (∃ x : Int, e = .returned (.int .i64 x) ∧ 0 ≤ x ∧ x ≤ 255) ∧ Cur w' cb 91 a len cap ∧ w.grownBy w' (some cb) := by
  have hcl := hc.lt
  obtain ⟨i0, h, hi0, hi1, hb⟩ := hc
  obtain ⟨i, rfl⟩ := Int.eq_ofNat_of_zero_le hi0
  have hlen := hcode.le
  unfold maxLen at hlen
  have c0 : w.cell? ⟨cb, 0, none⟩ = some (.slice a len cap) := by simp [World.cell?, hb]
  have c1 : w.cell? ⟨cb, 1, none⟩ = some (.int .i64 i) := by simp [World.cell?, hb]
  have c2 : w.cell? ⟨cb, 2, none⟩ = some (.int .i64 h) := by simp [World.cell?, hb]
  have f2 : w.frozen? ⟨cb, 2, none⟩ = false := by simp [World.frozen?, hb]
  have HB := Lib.hid hb
  clear hb
  go_enter Try.func95, Try.ntmps95
  go_wp2
  have HB1 := Lib.hid (cur_store HB.out 2 (.int .i64 (wrap64 (wrap64 (h * 6364136223846793005) + 1442695040888963407))))
  generalize wrap64 (wrap64 (h * 6364136223846793005) + 1442695040888963407) = h1 at HB1 ⊢
  obtain ⟨w1, hw1⟩ : ∃ w1, w1 = w.setCell ⟨cb, 2, none⟩ (.int .i64 h1) := ⟨_, rfl⟩
  rw [← hw1] at HB1 ⊢
  obtain ⟨hb1, hg1⟩ := HB1.out
  simp only [List.setIfInBounds_toArray, List.set_cons_succ, List.set_cons_zero] at hb1
  clear hw1 c0 c1 c2 f2 HB1
  have c0 : w1.cell? ⟨cb, 0, none⟩ = some (.slice a len cap) := by simp [World.cell?, hb1]
  have c1 : w1.cell? ⟨cb, 1, none⟩ = some (.int .i64 i) := by simp [World.cell?, hb1]
  have c2 : w1.cell? ⟨cb, 2, none⟩ = some (.int .i64 h1) := by simp [World.cell?, hb1]
  have f1 : w1.frozen? ⟨cb, 1, none⟩ = false := by simp [World.frozen?, hb1]
  have HB1 := Lib.hid hb1
  have HG1 := Lib.hid hg1
  clear hb1 hg1
  go_quiet (fail)
  go_wp2
  have hx0 := and_255 (bits BinOp.xor IntKind.i64 (h1 / 8589934592) (h1 / 35184372088832))
  generalize bits BinOp.and IntKind.i64 (bits BinOp.xor IntKind.i64 (h1 / 8589934592) (h1 / 35184372088832)) 255 = x0 at hx0 ⊢
  obtain ⟨hx1, hx2⟩ := hx0
  by_cases hlt : (i : Int) < (len : Int)
  · have hcode1 := hcode.below (grown_below HG1.out hB (Nat.le_of_lt (Nat.lt_of_le_of_lt hB hcl)))
    obtain ⟨b, off, rfl, hbB, x, hxa, hxb, hcx⟩ := hcode1.cell i (by omega)
    go_quiet (fail)
    go_wp2
    go_quiet (fail)
    go_wp2
    go_ret
    refine ⟨⟨_, rfl, (and_255 _).1, (and_255 _).2⟩, ⟨(i : Int) + 1, h1, by omega, by omega, ?_⟩, ?_⟩
    · have h := (cur_store (w := w1) HB1.out 1 (.int .i64 ((i : Int) + 1))).1
      simp only [List.setIfInBounds_toArray, List.set_cons_succ, List.set_cons_zero] at h
      exact h
    · have h := (cur_store (w := w1) HB1.out 1 (.int .i64 ((i : Int) + 1))).2
      exact grown_trans (grown_trans HG1.out h) (grown_drewN _ _ _)
  · go_quiet (fail)
    go_wp2
    go_ret
    exact ⟨⟨x0, rfl, hx1, hx2⟩, ⟨i, h1, by omega, hi1, HB1.out⟩, grown_trans HG1.out (grown_drewN _ _ _)⟩

theorem byte_draw (w : World) (cb B : Nat) (a : Option Addr) (len cap : Nat) (hd : Dr B w cb 91 a len cap) :
    Calls Try.prog 95 #[.pointer (some ⟨cb, 0, none⟩)] w fun e w' => (∃ x : Int, e = .returned (.int .i64 x) ∧ 0 ≤ x ∧ x ≤ 255) ∧ Went B w w' cb 91 a len cap :=
  (byte_any w cb B a len cap hd.cur hd.le hd.code).mono fun _ _ ⟨h1, h2, h3⟩ => ⟨h1, Went.mk' hd h2 h3⟩

set_option maxHeartbeats 400000 in
theorem below_small (w : World) (cb B : Nat) (a : Option Addr) (len cap : Nat) (hd : Dr B w cb 91 a len cap) (n : Int) (h1 : 1 ≤ n) (h2 : n ≤ 256) :
    Calls Try.prog 69 #[.pointer (some ⟨cb, 0, none⟩), .int .i64 n] w fun e w' => (∃ x : Int, e = .returned (.int .i64 x) ∧ 0 ≤ x ∧ x < n) ∧ Went B w w' cb 91 a len cap := by
  go_enter Try.func69, Try.ntmps69
  go_wp2_with fail
  refine (byte_draw _ cb B a len cap hd).mono ?_
  rintro e w1 ⟨⟨x, rfl, hx0, hx1⟩, hw⟩
  go_wp2_with fail
  go_ret
  exact ⟨⟨_, rfl, Int.emod_nonneg _ (by omega), Int.emod_lt_of_pos _ (by omega)⟩, hw⟩

set_option maxHeartbeats 400000 in
theorem below_great (w : World) (cb B : Nat) (a : Option Addr) (len cap : Nat) (hd : Dr B w cb 91 a len cap) (n : Int) (h1 : 256 < n) (h2 : n ≤ 9223372036854775807) :
    Calls Try.prog 69 #[.pointer (some ⟨cb, 0, none⟩), .int .i64 n] w fun e w' => (∃ x : Int, e = .returned (.int .i64 x) ∧ 0 ≤ x ∧ x < n) ∧ Went B w w' cb 91 a len cap := by
  go_enter Try.func69, Try.ntmps69
  go_wp2_with fail
  refine (byte_draw _ cb B a len cap hd).mono ?_
  rintro e w1 ⟨⟨x1, rfl, hx1, hy1⟩, hw1⟩
  go_wp2_with fail
  refine (byte_draw _ cb B a len cap hw1.dr).mono ?_
  rintro e w2 ⟨⟨x2, rfl, hx2, hy2⟩, hw2⟩
  go_wp2_with fail
  refine (byte_draw _ cb B a len cap hw2.dr).mono ?_
  rintro e w3 ⟨⟨x3, rfl, hx3, hy3⟩, hw3⟩
  go_wp2_with fail
  refine (byte_draw _ cb B a len cap hw3.dr).mono ?_
  rintro e w4 ⟨⟨x4, rfl, hx4, hy4⟩, hw4⟩
  go_wp2_with fail
  go_ret
  exact ⟨⟨_, rfl, Int.emod_nonneg _ (by omega), Int.emod_lt_of_pos _ (by omega)⟩, ((hw1.trans hw2).trans hw3).trans hw4⟩

theorem below_draw (w : World) (cb B : Nat) (a : Option Addr) (len cap : Nat) (hd : Dr B w cb 91 a len cap) (n : Int) (h1 : 1 ≤ n) (h2 : n ≤ 9223372036854775807) :
    Calls Try.prog 69 #[.pointer (some ⟨cb, 0, none⟩), .int .i64 n] w fun e w' => (∃ x : Int, e = .returned (.int .i64 x) ∧ 0 ≤ x ∧ x < n) ∧ Went B w w' cb 91 a len cap := by
  by_cases h : n ≤ 256
  · exact below_small w cb B a len cap hd n h1 h
  · exact below_great w cb B a len cap hd n (by omega) h2
end Go.Proofs.Ytecfomaapomncaa.Draw
