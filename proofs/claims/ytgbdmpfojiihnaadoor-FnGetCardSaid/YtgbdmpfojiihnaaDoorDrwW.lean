/-
  The walks of the draws, told as functions.
-/
import Derived.Test.YtgbdmpfojiihnaaDoorProg
import Derived.Test.YtgbdmpfojiihnaaDoorDrwA
import Derived.WalkLawsBesides
import Derived.Deep.QuietTactic
import Derived.BigQuiet
namespace Go.Proofs.YtgbdmpfojiihnaaDoor.Drw
open Go.RowKit Go.Proofs.YtgbdmpfojiihnaaDoor.Kit
set_option linter.unusedVariables false

set_option maxHeartbeats 400000 in
theorem byte_x (w : World) (cb B : Nat) (a : Option Addr) (len cap : Nat) (c : Nat → Int) (s : Nat × Int) (hd : Drw B w cb 59 a len cap c s) :
    Calls Tryd.prog 39 #[.pointer (some ⟨cb, 0, none⟩)] w fun e w' => e = .returned (.int .i64 (byteF c len s).1) ∧ Wnt B w w' cb 59 a len cap c (byteF c len s).2 := by
  have hcl := hd.lt
  have hcode := hd.code
  have hB := hd.le
  have hb := hd.cur
  have hpl := hd.pl
  have HD := Lib.hid hd
  clear hd
  obtain ⟨i, h⟩ := s
  dsimp only at hb hpl
  have hlen := hcode.le
  unfold maxLen at hlen
  have c0 : w.cell? ⟨cb, 0, none⟩ = some (.slice a len cap) := by simp [World.cell?, hb]
  have c1 : w.cell? ⟨cb, 1, none⟩ = some (.int .i64 i) := by simp [World.cell?, hb]
  have c2 : w.cell? ⟨cb, 2, none⟩ = some (.int .i64 h) := by simp [World.cell?, hb]
  have f2 : w.frozen? ⟨cb, 2, none⟩ = false := by simp [World.frozen?, hb]
  have HB := Lib.hid hb
  clear hb
  go_enter Tryd.func39, Tryd.ntmps39
  go_wp2
  have HB1 := Lib.hid (cur_store HB.out 2 (.int .i64 (nextH h)))
  have HN : Hid (nextH h = wrap64 (wrap64 (h * 6364136223846793005) + 1442695040888963407)) := Lib.hid rfl
  rw [← show nextH h = wrap64 (wrap64 (h * 6364136223846793005) + 1442695040888963407) from rfl]
  obtain ⟨h1, hh1⟩ : ∃ h1, h1 = nextH h := ⟨_, rfl⟩
  rw [← hh1] at HB1 ⊢
  have HH := Lib.hid hh1
  clear hh1
  obtain ⟨w1, hw1⟩ : ∃ w1, w1 = w.setCell ⟨cb, 2, none⟩ (.int .i64 h1) := ⟨_, rfl⟩
  rw [← hw1] at HB1 ⊢
  obtain ⟨hb1, hg1⟩ := HB1.out
  simp only [List.setIfInBounds_toArray, List.set_cons_succ, List.set_cons_zero] at hb1
  clear hw1 c0 c1 c2 f2 HB1
  have c0 : w1.cell? ⟨cb, 0, none⟩ = some (.slice a len cap) := by simp [World.cell?, hb1]
  have c1 : w1.cell? ⟨cb, 1, none⟩ = some (.int .i64 i) := by simp [World.cell?, hb1]
  have c2 : w1.cell? ⟨cb, 2, none⟩ = some (.int .i64 h1) := by simp [World.cell?, hb1]
  have f1 : w1.frozen? ⟨cb, 1, none⟩ = false := by simp [World.frozen?, hb1]
  have HB1 := Lib.hid hb1
  have HG1 := Lib.hid hg1
  clear hb1 hg1
  go_quiet (fail)
  go_wp2
  have hx0 := outH_bd h1
  rw [← show outH h1 = bits BinOp.and IntKind.i64 (bits BinOp.xor IntKind.i64 (h1 / 8589934592) (h1 / 35184372088832)) 255 from rfl]
  obtain ⟨x0, hxe⟩ : ∃ x0, x0 = outH h1 := ⟨_, rfl⟩
  rw [← hxe] at hx0 ⊢
  have HX := Lib.hid hxe
  clear hxe
  obtain ⟨hx1, hx2⟩ := hx0
  by_cases hlt : (i : Int) < (len : Int)
  · have hcode1 := hcode.below (grown_below HG1.out hB (Nat.le_of_lt (Nat.lt_of_le_of_lt hB hcl)))
    obtain ⟨b, off, rfl, hbB, hxa, hxb, hcx⟩ := hcode1.cell i (by omega)
    have hF : Hid (byteF c len (i, h) = (bits .and .i64 (x0 + c i) 255, (i + 1, h1))) := by
      have : byteF c len (i, h) = _ := if_pos (by show i < len; omega)
      refine Lib.hid (this.trans ?_)
      rw [HX.out, HH.out]
    go_quiet (fail)
    go_wp2
    go_quiet (fail)
    go_wp2
    go_ret
    rw [hF.out]
    refine ⟨rfl, Wnt.mk' HD.out (by show i + 1 ≤ len; omega) ?_ ?_⟩
    · have h := (cur_store (w := w1) HB1.out 1 (.int .i64 ((i : Int) + 1))).1
      simp only [List.setIfInBounds_toArray, List.set_cons_succ, List.set_cons_zero] at h
      exact h
    · have h := (cur_store (w := w1) HB1.out 1 (.int .i64 ((i : Int) + 1))).2
      exact grown_trans (grown_trans HG1.out h) (grown_drewN _ _ _)
  · have hF : Hid (byteF c len (i, h) = (x0, (i, h1))) := by
      have : byteF c len (i, h) = _ := if_neg (by show ¬ i < len; omega)
      refine Lib.hid (this.trans ?_)
      rw [HX.out, HH.out]
    go_quiet (fail)
    go_wp2
    go_ret
    rw [hF.out]
    exact ⟨rfl, Wnt.mk' HD.out hpl HB1.out (grown_trans HG1.out (grown_drewN _ _ _))⟩

set_option maxHeartbeats 400000 in
theorem below_x (w : World) (cb B : Nat) (a : Option Addr) (len cap : Nat) (c : Nat → Int) (s : Nat × Int) (hd : Drw B w cb 59 a len cap c s) (n : Int) (h1 : 1 ≤ n) (h2 : n ≤ 256) :
    Calls Tryd.prog 21 #[.pointer (some ⟨cb, 0, none⟩), .int .i64 n] w fun e w' => e = .returned (.int .i64 (belowF c len n s).1) ∧ Wnt B w w' cb 59 a len cap c (belowF c len n s).2 := by
  have hbd := byteF_bd c len s
  obtain ⟨x, hx⟩ : ∃ x, x = (byteF c len s).1 := ⟨_, rfl⟩
  have hb := byte_x w cb B a len cap c s hd
  rw [← hx] at hb hbd
  have hF : Hid (belowF c len n s = (x % n, (byteF c len s).2)) := Lib.hid (by rw [hx]; rfl)
  have HBY := Lib.hid hb
  have hbd1 := hbd.1
  have hbd2 := hbd.2
  clear hb hx hbd
  go_enter Tryd.func21, Tryd.ntmps21
  go_wp2_with fail
  refine HBY.out.mono ?_
  rintro e w1 ⟨rfl, hw⟩
  go_wp2_with fail
  go_ret
  rw [hF.out]
  exact ⟨rfl, hw⟩
end Go.Proofs.YtgbdmpfojiihnaaDoor.Drw
