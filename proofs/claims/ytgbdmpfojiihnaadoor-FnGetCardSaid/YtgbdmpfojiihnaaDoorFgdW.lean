/-
  The draws of FnGet, first part: a text out of a list, and a text that is bent.
-/
import Derived.Test.YtgbdmpfojiihnaaDoorFdoW
import Derived.Deep.RegionHeld3
namespace Go.Proofs.YtgbdmpfojiihnaaDoor.Fdw
open Go.RowKit Go.Proofs.YtgbdmpfojiihnaaDoor.Kit Go.Proofs.YtgbdmpfojiihnaaDoor.Frm Go.Proofs.YtgbdmpfojiihnaaDoor.Drw
set_option linter.unusedVariables false

theorem WntE.drew {B : Nat} {w w1 : World} {cb : Nat} {a : Option Addr} {len cap : Nat} {c : Nat → Int} (h : WntE B w w1 cb a len cap c) : WntE B w w1.drew cb a len cap c := by
  obtain ⟨s, hs⟩ := h
  exact ⟨s, ⟨hs.dr.pl, hs.dr.cur, hs.dr.code.below (show Below B w1 w1.drew from let h := Below.refl B w1; ⟨h.os, h.tape, h.output, h.size, h.block⟩), hs.dr.le⟩, ⟨hs.grown.os, hs.grown.tape, hs.grown.output, hs.grown.size, hs.grown.block⟩⟩
theorem pick_e (w : World) (cb B : Nat) (a : Option Addr) (len cap : Nat) (c : Nat → Int) (hd : DrwE B w cb a len cap c) (g n : Nat) (L : List ByteArray) (hL : StrsIs w g L) (hn : n = L.length) (hg : g ≠ cb) (h1 : 1 ≤ n) (h2 : n ≤ 100) (hs2 : ∀ x ∈ L, x.size ≤ 2) :
    Calls Tryd.prog 48 #[.pointer (some ⟨cb, 0, none⟩), .slice (some ⟨g, 0, none⟩) n n] w fun e w' => (∃ z : ByteArray, e = .returned (.string z) ∧ z.size ≤ 2) ∧ WntE B w w' cb a len cap c := by
  obtain ⟨s, hs⟩ := hd
  exact (pick_x w cb B a len cap c s hs g n L hL hn hg h1 h2).mono fun e w' ⟨he, hw⟩ => ⟨⟨_, he, pickF_size L c len s hs2⟩, ⟨_, hw⟩⟩
def bentL : List ByteArray := [⟨#[48]⟩, ⟨#[32]⟩, ⟨#[255]⟩, ⟨#[10]⟩, ⟨#[97]⟩, ⟨#[0]⟩]
def bentM : List ByteArray := [⟨#[48]⟩, ⟨#[65]⟩, ⟨#[0]⟩, ⟨#[57]⟩, ⟨#[122]⟩, ⟨#[1]⟩]
theorem bentL_size : ∀ x ∈ bentL, x.size ≤ 2 := by
  intro x hx
  simp only [bentL, List.mem_cons, List.mem_nil_iff, or_false] at hx
  rcases hx with rfl | rfl | rfl | rfl | rfl | rfl <;> decide
theorem bentM_size : ∀ x ∈ bentM, x.size ≤ 2 := by
  intro x hx
  simp only [bentM, List.mem_cons, List.mem_nil_iff, or_false] at hx
  rcases hx with rfl | rfl | rfl | rfl | rfl | rfl <;> decide
theorem glue (x z y : ByteArray) (h : x.size + z.size + y.size ≤ 1000) : ∃ q r : ByteArray, (∀ wx, (Op.stringOp .add x z).run Tryd.prog wx = .ok (.string q) wx) ∧ (∀ wx, (Op.stringOp .add q y).run Tryd.prog wx = .ok (.string r) wx) ∧ r.size = x.size + z.size + y.size :=
  ⟨x ++ z, x ++ z ++ y, fun wx => run_string_add_sum wx x z (by omega), fun wx => run_string_add_sum wx (x ++ z) y (by rw [ByteArray.size_append]; omega), by rw [ByteArray.size_append, ByteArray.size_append]⟩
theorem cut_to (s : ByteArray) (j : Nat) (hj : j ≤ s.size) : ∃ x : ByteArray, x.size = j ∧ ∀ wx, (Instr.slice 9 (.string s) none (some (.int .i64 (j : Int))) none).run Tryd.prog wx = .ok (.string x) wx := by
  refine ⟨s.extract 0 j, by rw [ext_size s 0 j hj]; omega, fun wx => ?_⟩
  have h0 : 0 ≤ (j : Int) ∧ (j : Int) ≤ s.size := ⟨by omega, by omega⟩
  simp [go_sem, h0]
  try omega
theorem cut_from (s : ByteArray) (j : Nat) (hj : j ≤ s.size) : ∃ x : ByteArray, x.size = s.size - j ∧ ∀ wx, (Instr.slice 9 (.string s) (some (.int .i64 (j : Int))) none none).run Tryd.prog wx = .ok (.string x) wx := by
  refine ⟨s.extract j s.size, ext_size s j s.size (by omega), fun wx => ?_⟩
  have h0 : 0 ≤ (j : Int) ∧ (j : Int) ≤ s.size := ⟨by omega, by omega⟩
  simp [go_sem, h0]
  try omega
/-- a text of at most so many bytes, the cursor behind its draw -/
def TxEnd (B : Nat) (w w' : World) (cb : Nat) (a : Option Addr) (len cap : Nat) (c : Nat → Int) (n : Nat) (en : Ending) : Prop :=
  (∃ t : ByteArray, t.size ≤ n ∧ en = .returned (.string t)) ∧ WntE B w w' cb a len cap c

set_option maxRecDepth 100000 in
set_option maxHeartbeats 1000000 in
theorem bent_e (w : World) (cb B : Nat) (a : Option Addr) (len cap : Nat) (c : Nat → Int) (hd : DrwE B w cb a len cap c) (s : ByteArray) (hs : s.size ≤ 100) :
    Calls Tryd.prog 41 #[.pointer (some ⟨cb, 0, none⟩), .string s] w fun en w' => TxEnd B w w' cb a len cap c (s.size + 2) en := by
  obtain ⟨m, hm⟩ : ∃ m : Int, m = (s.size : Int) + 1 := ⟨_, rfl⟩
  have hwm : IntKind.i64.wrap ((s.size : Int) + 1) = m := by rw [hm]; exact IntWalk.i64_in _ (by omega)
  have hm0 : 1 ≤ m := by omega
  have hm1 : m ≤ 200 := by omega
  have HM := Lib.hid hm
  have HD := Lib.hid hd
  have hcb := hd.lt
  clear hm hd
  go_enter Tryd.func41, Tryd.ntmps41
  go_wp2_with fail
  refine (below_e _ cb B a len cap c HD.out m (by omega) (by omega)).mono ?_
  rintro en w1 ⟨⟨i, rfl, hi0, hi1⟩, hw⟩
  obtain ⟨i, rfl⟩ := Int.eq_ofNat_of_zero_le hi0
  have HW1 := Lib.hid hw
  have hile : i ≤ s.size := by have := HM.out; omega
  have hcw1 := hw.dr.lt
  clear hw hwm hi0 hi1 hm0 hm1
  obtain ⟨x, hxs, hxr⟩ := cut_to s i hile
  obtain ⟨y, hys, hyr⟩ := cut_from s i hile
  go_wp2_with fail
  refine (below_e _ cb B a len cap c HW1.out.dr 10 (by omega) (by omega)).mono ?_
  rintro en w2 ⟨⟨v, rfl, hv0, hv1⟩, hw⟩
  have HW2 := Lib.hid (HW1.out.trans hw)
  have hcw2 := hw.dr.lt
  clear hw
  rcases (show v = 0 ∨ v = 1 ∨ v = 2 ∨ 3 ≤ v by omega) with rfl | rfl | rfl | hv
  · go_wp2_with fail
    go_ret
    exact ⟨⟨x, by omega, rfl⟩, HW2.out⟩
  · go_upto_region 6 with fail
    have HX := Lib.hid (show WntE B w (w2.alloc (.cells #[.string ⟨#[48]⟩, .string ⟨#[32]⟩, .string ⟨#[255]⟩, .string ⟨#[10]⟩, .string ⟨#[97]⟩, .string ⟨#[0]⟩] 9)).drew cb a len cap c from (HW2.out.alloc _).drew)
    have HS := Lib.hid (show StrsIs (w2.alloc (.cells #[.string ⟨#[48]⟩, .string ⟨#[32]⟩, .string ⟨#[255]⟩, .string ⟨#[10]⟩, .string ⟨#[97]⟩, .string ⟨#[0]⟩] 9)).drew w2.heap.size bentL from fun j hj => strsIs_new w2 bentL 9 j hj)
    have HG := Lib.hid (show ∀ z : ByteArray, z.size ≤ 2 → _ from fun z hz => glue x z y (by omega))
    go_region_held3 (fun w' => WntE B w w' cb a len cap c)
      (first
        | (with_reducible exact HW2.out.drew)
        | (with_reducible exact HX.out)
        | (with_reducible exact HZ.out)
        | (with_reducible assumption))
      (first
        | (go_at_call 48; (with_reducible refine (pick_e _ cb B a len cap c HX.out.dr w2.heap.size 6 bentL HS.out rfl (by omega) (by omega) (by omega) bentL_size).mono ?_); rintro en w3 ⟨⟨z, rfl, hz⟩, hw⟩; have HZ := Lib.hid (HX.out.trans hw); clear hw; obtain ⟨q, r, hq, hr, hrs⟩ := HG.out z hz))
    go_wp2_with fail
    go_ret
    exact ⟨⟨r, by omega, rfl⟩, HZ.out⟩
  · by_cases hlt : i < s.size
    · have hlt' : (i : Int) < (s.size : Int) := by omega
      obtain ⟨i1, hi1⟩ : ∃ i1 : Nat, i1 = i + 1 := ⟨_, rfl⟩
      have hw1 : IntKind.i64.wrap ((i : Int) + 1) = (i1 : Int) := by rw [hi1]; rw [IntWalk.i64_in _ (by omega)]; omega
      obtain ⟨y1, hy1s, hy1r⟩ := cut_from s i1 (by omega)
      have HS1 := Lib.hid (show x.size + 2 + y1.size ≤ s.size + 1 by omega)
      clear hi1 hyr hys hy1s
      go_upto_region 9 with fail
      have HX := Lib.hid (show WntE B w (w2.alloc (.cells #[.string ⟨#[48]⟩, .string ⟨#[65]⟩, .string ⟨#[0]⟩, .string ⟨#[57]⟩, .string ⟨#[122]⟩, .string ⟨#[1]⟩] 9)).drew cb a len cap c from (HW2.out.alloc _).drew)
      have HS := Lib.hid (show StrsIs (w2.alloc (.cells #[.string ⟨#[48]⟩, .string ⟨#[65]⟩, .string ⟨#[0]⟩, .string ⟨#[57]⟩, .string ⟨#[122]⟩, .string ⟨#[1]⟩] 9)).drew w2.heap.size bentM from fun j hj => strsIs_new w2 bentM 9 j hj)
      have HG := Lib.hid (show ∀ z : ByteArray, z.size ≤ 2 → _ from fun z hz => glue x z y1 (by have := HS1.out; omega))
      go_region_held3 (fun w' => WntE B w w' cb a len cap c)
        (first
          | (with_reducible exact HW2.out.drew)
          | (with_reducible exact HX.out)
          | (with_reducible exact HZ.out)
          | (with_reducible assumption))
        (first
          | (go_at_call 48; (with_reducible refine (pick_e _ cb B a len cap c HX.out.dr w2.heap.size 6 bentM HS.out rfl (by omega) (by omega) (by omega) bentM_size).mono ?_); rintro en w3 ⟨⟨z, rfl, hz⟩, hw⟩; have HZ := Lib.hid (HX.out.trans hw); clear hw; obtain ⟨q, r, hq, hr, hrs⟩ := HG.out z hz))
      go_wp2_with fail
      go_ret
      exact ⟨⟨r, by have := HS1.out; omega, rfl⟩, HZ.out⟩
    · have hlt' : ¬ (i : Int) < (s.size : Int) := by omega
      go_wp2_with fail
      go_ret
      exact ⟨⟨s, by omega, rfl⟩, HW2.out⟩
  · have hv3 : ¬ v = 0 := by omega
    have hv4 : ¬ v = 1 := by omega
    have hv5 : ¬ v = 2 := by omega
    have hb0 : (v == 0) = false := by simpa using hv3
    have hb1 : (v == 1) = false := by simpa using hv4
    have hb2 : (v == 2) = false := by simpa using hv5
    go_wp2_with fail
    go_ret
    exact ⟨⟨s, by omega, rfl⟩, HW2.out⟩
end Go.Proofs.YtgbdmpfojiihnaaDoor.Fdw
