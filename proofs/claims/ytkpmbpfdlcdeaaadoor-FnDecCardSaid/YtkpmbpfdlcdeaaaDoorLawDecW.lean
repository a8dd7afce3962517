/-
  The walk of the law FnDec.
-/
import Derived.Test.YtkpmbpfdlcdeaaaDoorBig
import Derived.Test.YtkpmbpfdlcdeaaaDoorDrawD
import Derived.Test.YtkpmbpfdlcdeaaaDoorReadB
import Derived.Test.YtkpmbpfdlcdeaaaDoorReadS
import Derived.Test.YtkpmbpfdlcdeaaaDoorTextW
import Derived.WalkSmall
import Derived.Lib.LaidTab
namespace Go.Proofs.YtkpmbpfdlcdeaaaDoor.Draw
open Go.RowKit Go.Proofs.YtkpmbpfdlcdeaaaDoor.Kit
set_option linter.unusedVariables false

theorem short_max {s : ByteArray} (h : shortText s) : s.size ≤ maxLen := by unfold shortText at h; unfold maxLen; omega

set_option maxHeartbeats 1000000 in
theorem fnDec_walk (w0 : World) (a : Option Addr) (len cap : Nat) (zs : List Int) (h : IsRow .u8 w0 a len cap zs) (htab : Lib.TabIs Tryd.prog w0 "internal/strconv.uint64pow10" .u64 Lib.pow10Tab) :
    Calls Tryd.prog 3 #[.slice a len cap] w0 fun e w' => e = .returned (.bool true) ∧ Below w0.heap.size w0 w' := by
  have hcode := h.code
  have HC := Lib.hid hcode
  have HT := Lib.hid htab
  have hgn : Tryd.prog.globalNamed "internal/strconv.uint64pow10" = some 0 := by kernel_rfl
  have hg : 0 < w0.heap.size := World.block_lt_of_cell? w0 _ (htab.cell hgn 0 (by simp [Lib.pow10Tab]))
  have HGN := Lib.hid hgn
  have hl := hcode.le
  clear hcode h htab hgn
  by_cases hbig : (1048576 : Int) < (len : Int)
  · go_enter Tryd.func3, Tryd.ntmps3
    go_wp2_with fail
    refine (big_yes _ a len cap hl hbig).mono ?_
    rintro e w' ⟨rfl, rfl⟩
    go_wp2_with fail
    go_ret
    exact ⟨rfl, Below.refl _ _⟩
  · go_enter Tryd.func3, Tryd.ntmps3
    go_wp2_with fail
    refine (big_no _ a len cap hl hbig).mono ?_
    rintro e w' ⟨rfl, rfl⟩
    go_wp2_with fail
    refine (drawDecText _ a len cap HC.out).mono ?_
    rintro e w1 ⟨⟨z, rfl, hz⟩, hb1⟩
    have hz0 := hz.1
    have hz1 := hz.2
    clear hz
    go_wp2_with fail
    refine (Dec.decText_any z _ hz0 hz1 (var?_below hb1 HGN.out hg HT.out)).mono ?_
    rintro e w2 ⟨rfl, hb2⟩
    have hb12 := hb1.trans (hb2.mono hb1.size)
    go_wp2_with fail
    refine (drawReadDec _ a len cap ⟨hl, fun i hi => by
      obtain ⟨b, off, e, hlt, x, h0, h1, hc⟩ := (HC.out.below hb12).cell i hi
      exact ⟨b, off, e, Nat.lt_of_lt_of_le hlt hb12.size, x, h0, h1, hc⟩⟩).mono ?_
    rintro e w3 ⟨⟨s, rfl, hs⟩, hb3⟩
    have hsm := short_max hs
    have hb13 := hb12.trans (hb3.mono hb12.size)
    go_wp2_with fail
    refine (Dec.specDec_any z _ hz0 hz1).mono ?_
    rintro e w4 ⟨rfl, rfl⟩
    go_wp2_with fail
    refine (Dec.readDec_any s _ hsm).mono ?_
    rintro e w4 ⟨rfl, rfl⟩
    go_wp2_with fail
    refine (Dec.specRead_any s _ hsm).mono ?_
    rintro e w4 ⟨rfl, rfl⟩
    by_cases hr0 : z < 0
    · go_wp2_with fail
      refine (Dec.readDec_any _ _ (short_max (short_itoa z hz0 hz1))).mono ?_
      rintro e w4 ⟨rfl, rfl⟩
      have hrv : (Dec.readVal (Lib.itoa z) == -1) = true := by rw [Dec.read_neg z hr0]; simp
      go_wp2_with fail
      go_ret
      exact ⟨rfl, hb13⟩
    · by_cases hr1 : 999999999 < z
      · have hdd : decide (z ≤ 999999999) = false := by simp; omega
        go_wp2_with fail
        refine (Dec.readDec_any _ _ (short_max (short_itoa z hz0 hz1))).mono ?_
        rintro e w4 ⟨rfl, rfl⟩
        have hrv : (Dec.readVal (Lib.itoa z) == -1) = true := by rw [Dec.read_great z hr1]; simp
        go_wp2_with fail
        go_ret
        exact ⟨rfl, hb13⟩
      · go_wp2_with fail
        refine (Dec.readDec_any _ _ (short_max (short_itoa z hz0 hz1))).mono ?_
        rintro e w4 ⟨rfl, rfl⟩
        have hrv : (Dec.readVal (Lib.itoa z) == z) = true := by rw [Dec.read_back z (by omega) (by omega)]; simp
        go_wp2_with fail
        go_ret
        exact ⟨rfl, hb13⟩
end Go.Proofs.YtkpmbpfdlcdeaaaDoor.Draw
