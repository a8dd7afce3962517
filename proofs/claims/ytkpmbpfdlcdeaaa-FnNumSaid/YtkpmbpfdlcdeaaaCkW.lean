/-
  The walk of the law FnCheck.
-/
import Derived.Test.YtkpmbpfdlcdeaaaTxtW
import Derived.Test.YtkpmbpfdlcdeaaaCheckW
import Derived.Test.YtkpmbpfdlcdeaaaCkA
import Derived.Test.YtkpmbpfdlcdeaaaBig
namespace Go.Proofs.Ytkpmbpfdlcdeaaa.Ck
open Go.RowKit Go.Proofs.Ytkpmbpfdlcdeaaa.Kit Go.Proofs.Ytkpmbpfdlcdeaaa.Drw
set_option linter.unusedVariables false

set_option maxHeartbeats 400000 in
theorem new_x (w : World) (B : Nat) (a : Option Addr) (len cap : Nat) (c : Nat → Int) (hcode : CodeIs B w a len cap c) (hB : B ≤ w.heap.size) :
    Calls Try.prog 28 #[.slice a len cap] w fun e w' => e = .returned (.pointer (some ⟨w.heap.size, 0, none⟩)) ∧ Drw B w' w.heap.size 57 a len cap c (newF c len) ∧ Below w.heap.size w w' := by
  have hlen := hcode.le
  unfold maxLen at hlen
  have HC := Lib.hid hcode
  clear hcode
  go_enter Try.func28, Try.ntmps28
  go_wp2
  go_loop [3, 4] (fun m i => ∃ (k : Nat) (x : Int), k ≤ len ∧ k ≤ 4000 ∧ i = .int .i64 k ∧ m = .int .i64 x ∧ Hid (x = hashF c len k)) (fun _ i => len - (intOf i).toNat)
  case atStart => exact ⟨0, _, by omega, by omega, rfl, rfl, Lib.hid rfl⟩
  case round =>
    obtain ⟨k, x, hk, hk4, rfl, rfl, HX⟩ := hrel
    have fin : ∀ (hf : k = min len 4000), Drw B (w.alloc (.cells #[.slice a len cap, .int .i64 0, .int .i64 x] 57)) w.heap.size 57 a len cap c (newF c len) := fun hf =>
      ⟨Nat.zero_le _, by rw [HX.out, hf]; exact heap_alloc_new w _, HC.out.below ((Below.refl _ _).alloc hB _), hB⟩
    have FIN := Lib.hid fin
    clear fin
    by_cases hlt : (k : Int) < (len : Int)
    · by_cases h4 : (k : Int) < 4000
      · obtain ⟨b, off, hae, hbB, hya, hyb, hcy⟩ := HC.out.cell k (by omega)
        subst hae
        go_wp2
        go_round
        case rel => exact ⟨k + 1, _, by omega, by omega, by go_num, rfl, Lib.hid (by rw [HX.out]; rfl)⟩
        case measure => simp [intOf]; omega
      · go_wp2
        go_ret
        exact ⟨rfl, FIN.out (by omega), (Below.refl _ _).alloc (Nat.le_refl _) _⟩
    · go_wp2
      go_ret
      exact ⟨rfl, FIN.out (by omega), (Below.refl _ _).alloc (Nat.le_refl _) _⟩

theorem drawCheck_x (w : World) (a : Option Addr) (len cap : Nat) (c : Nat → Int) (hcode : CodeIs w.heap.size w a len cap c) (hlen : len ≤ 1048576) :
    Calls Try.prog 17 #[.slice a len cap] w fun e w' => (∃ l : List UInt8, l.length ≤ 11 ∧ e = .returned (.string ⟨l.toArray⟩)) ∧ Below w.heap.size w w' := by
  have hbd := belowF_bd c len 12 (newF c len) (by omega)
  have hbl := fun w1 hd => below_x w1 w.heap.size w.heap.size a len cap c (newF c len) hd 12 (by omega) (by omega)
  obtain ⟨N, hN⟩ : ∃ N, N = (belowF c len 12 (newF c len)).1 := ⟨_, rfl⟩
  rw [← hN] at hbl hbd
  obtain ⟨N, rfl⟩ := Int.eq_ofNat_of_zero_le hbd.1
  have HB := Lib.hid hbl
  have HN := Lib.hid hbd.2
  have HC := Lib.hid hcode
  have HL := Lib.hid hlen
  clear hbl hbd hN hcode hlen
  go_enter Try.func17, Try.ntmps17
  go_wp2_with fail
  refine (new_x _ w.heap.size a len cap c HC.out (Nat.le_refl _)).mono ?_
  rintro e w1 ⟨rfl, hd, hb1⟩
  go_wp2_with fail
  refine (HB.out _ hd).mono ?_
  rintro e w2 ⟨rfl, hw2⟩
  go_wp2_with fail
  refine (Txt.text_x _ w.heap.size w.heap.size a len cap c _ hw2.dr HL.out N (by have := HN.out; omega)).mono ?_
  rintro e w3 ⟨l, s, hl, rfl, hw3⟩
  go_wp2_with fail
  go_ret
  refine ⟨⟨l, by have := HN.out; omega, rfl⟩, ?_⟩
  exact (hb1.trans (grown_below (hw2.grown) (Nat.le_refl _) hb1.size)).trans (grown_below hw3.grown (Nat.le_refl _) (Nat.le_trans hb1.size hw2.grown.size))

theorem back_row {P : Program} (src dst e : TypeId) (hs : P.underlying src = some (.slice e)) (he : P.underlying e = some (.int .u8)) (hd : P.underlying dst = some .string) {w : World} {g : Nat} {l : List UInt8} (h : BRow w g l) (n cap : Nat) (hn : n = l.length) :
    (convert src dst (.slice (some ⟨g, 0, none⟩) n cap)).run P w = .ok (.string ⟨l.toArray⟩) w := by
  subst hn
  exact run_convert_bytes_back w src dst e ⟨g, 0, none⟩ cap l hs he hd (fun j hj => by rw [add_none, Nat.zero_add]; exact h.cell j hj)
theorem wrap_byte (c : UInt8) : wrap64 (c.toNat : Int) = (c.toNat : Int) := by have := c.toNat_lt; unfold wrap64; omega
theorem ofNat_int (z : Int) (h0 : 0 ≤ z) (h1 : z < 256) : ((UInt8.ofNat z.toNat).toNat : Int) = z := by
  have : (UInt8.ofNat z.toNat).toNat = z.toNat := by simp; omega
  rw [this]; omega
theorem alike_eq (x y : Int) (hx0 : 0 ≤ x) (hx1 : x < 256) (hy0 : 0 ≤ y) (hy1 : y < 256) (v n : Int) (h : v = n ↔ Int.tmod (x - y) 255 = 0) : ((wrap64 (x - y)).tmod 255 == 0) = (v == n) := by
  have e : wrap64 (x - y) = x - y := by unfold wrap64; omega
  rw [e]
  rw [Bool.eq_iff_iff, beq_iff_eq, beq_iff_eq]
  exact h.symm

theorem at_any (w : World) (B : Nat) (a : Option Addr) (len cap : Nat) (c : Nat → Int) (hcode : CodeIs B w a len cap c) (hlen : len ≤ 1048576) (k : Nat) (hk : k ≤ 1000) :
    Calls Try.prog 20 #[.slice a len cap, .int .i64 k] w fun e w' => (∃ z : Int, 0 ≤ z ∧ z < 256 ∧ e = .returned (.int .i64 z)) ∧ w = w' := by
  have HC := Lib.hid hcode
  clear hcode
  by_cases hlt : (k : Int) < (len : Int)
  · obtain ⟨b, off, rfl, hbB, hy0, hy1, hcy⟩ := HC.out.cell k (by omega)
    obtain ⟨y, hy⟩ : ∃ y, y = c k := ⟨_, rfl⟩
    rw [← hy] at hy0 hy1 hcy
    clear hy
    go_enter Try.func20, Try.ntmps20
    go_wp2
    go_ret
    exact ⟨⟨y, hy0, hy1, rfl⟩, rfl⟩
  · go_enter Try.func20, Try.ntmps20
    go_wp2
    go_ret
    exact ⟨⟨_, by omega, by omega, rfl⟩, rfl⟩

set_option maxRecDepth 100000 in
set_option maxHeartbeats 2000000 in
theorem fnCheck_walk (w0 : World) (a : Option Addr) (len cap : Nat) (zs : List Int) (h : IsRow .u8 w0 a len cap zs) :
    Calls Try.prog 4 #[.slice a len cap] w0 fun e w' => e = .returned (.bool true) ∧ Below w0.heap.size w0 w' := by
  have hcode := h.codeIs
  obtain ⟨c, hc⟩ : ∃ c : Nat → Int, c = fun i => zs.getD i 0 := ⟨_, rfl⟩
  rw [← hc] at hcode
  clear hc h
  have HC := Lib.hid hcode
  have hl := hcode.le
  clear hcode
  by_cases hbig : (1048576 : Int) < (len : Int)
  · go_enter Try.func4, Try.ntmps4
    go_wp2_with fail
    refine (Draw.big_yes _ a len cap hl hbig).mono ?_
    rintro e w' ⟨rfl, rfl⟩
    go_wp2_with fail
    go_ret
    exact ⟨rfl, Below.refl _ _⟩
  · have HL := Lib.hid hl
    have HBG := Lib.hid (show len ≤ 1048576 by omega)
    clear hl
    go_enter Try.func4, Try.ntmps4
    go_wp2_with fail
    refine (Draw.big_no _ a len cap HL.out (by omega)).mono ?_
    rintro e w' ⟨rfl, rfl⟩
    go_wp2_with fail
    refine (drawCheck_x _ a len cap c HC.out HBG.out).mono ?_
    rintro e w1 ⟨⟨l, hl11, rfl⟩, hb1⟩
    obtain ⟨s, hs⟩ : ∃ s : ByteArray, s = ⟨l.toArray⟩ := ⟨_, rfl⟩
    rw [← hs]
    have hdl : s.data.toList = l := by rw [hs]
    have hsz : s.size = l.length := by rw [hs]; show l.toArray.size = _; simp
    have hget : ∀ k (h : k < l.length) (h' : k < s.size), s[k] = l[k] := fun k h h' => by subst hs; show l.toArray[k] = _; simp
    have hbd := ckVal_bd l
    have hck := fun w => check_any s w (by rw [hsz]; unfold maxLen; omega)
    have hsck := fun w => specCheck_any s w (by rw [hsz]; unfold maxLen; omega)
    have hckl : ∀ (m : List UInt8) (hm : m.length = l.length) (w : World), Calls Try.prog 18 #[.string ⟨m.toArray⟩] w fun e w' => e = .returned (.int .i64 (ckVal m)) ∧ w = w' := by
      intro m hm w
      have h := check_any ⟨m.toArray⟩ w (by show m.toArray.size ≤ _; rw [List.size_toArray, hm]; unfold maxLen; omega)
      have e : (ByteArray.mk m.toArray).data.toList = m := by simp
      rw [e] at h
      exact h
    rw [hdl] at hck hsck
    have hcv := fun w => run_bytes_of_string (P := Try.prog) w 9 22 5 s Try.underlying9 Try.underlying22 Try.underlying5
    have hnew := fun w cap f1 => brow_new w s 5 cap f1
    rw [hdl] at hnew
    obtain ⟨n, hn⟩ : ∃ n, n = ckVal l := ⟨_, rfl⟩
    have hput := put_law l
    have hswap := swap_law l
    rw [← hn] at hbd hck hsck hput hswap
    obtain ⟨hn0, hn1⟩ := hbd
    have HN1 := Lib.hid hn1
    have HCK := Lib.hid hck
    have HSCK := Lib.hid hsck
    have HNEW := Lib.hid hnew
    have HGET := Lib.hid hget
    have HPUT := Lib.hid hput
    have HSWAP := Lib.hid hswap
    have H11 := Lib.hid hl11
    have HCKL := Lib.hid hckl
    clear hdl hck hsck hnew hget hput hswap hn hs hl11 hckl
    go_wp2_with fail
    refine (HCK.out _).mono ?_
    rintro e w' ⟨rfl, rfl⟩
    go_wp2_with fail
    refine (HSCK.out _).mono ?_
    rintro e w' ⟨rfl, rfl⟩
    go_wp2
    go_loopw [5] (fun i wr => ∃ k : Nat, k ≤ l.length ∧ i = .int .i64 k ∧ Below w0.heap.size w0 wr) (fun i _ => l.length - (intOf i).toNat)
    case atStart => exact ⟨0, by omega, rfl, hb1⟩
    case round =>
      obtain ⟨k, hk, rfl, hbk⟩ := hrel
      by_cases hkl : (k : Int) < (l.length : Int)
      · have h11 := H11.out
        go_wp2_with fail
        obtain ⟨cp, hcp⟩ : ∃ cp, cp = grownCap wr l.length 0 5 := ⟨_, rfl⟩
        rw [← hcp]
        clear hcp
        have hbn : BRow ((wr.alloc (.cells (bytesRow s cp) 5 ((bytesRow s cp).size, (bytesRow s cp).size + 1))).drew) wr.heap.size l := HNEW.out wr cp _
        have hbw : Below w0.heap.size w0 ((wr.alloc (.cells (bytesRow s cp) 5 ((bytesRow s cp).size, (bytesRow s cp).size + 1))).drew) := (hbk.alloc hbk.size _).drew
        obtain ⟨wa, hwa⟩ : ∃ wa, wa = (wr.alloc (.cells (bytesRow s cp) 5 ((bytesRow s cp).size, (bytesRow s cp).size + 1))).drew := ⟨_, rfl⟩
        rw [← hwa] at hbn hbw ⊢
        clear hwa
        have hgr := hbk.size
        obtain ⟨g, hg⟩ : ∃ g, g = wr.heap.size := ⟨_, rfl⟩
        rw [← hg] at hbn hgr ⊢
        clear hg hbk
        have hkn : k < l.length := by omega
        have hcell := hbn.cell k hkn
        have hfr := hbn.frozen k hkn
        have HB := Lib.hid hbn
        have HW := Lib.hid hbw
        clear hbn hbw
        refine (at_any _ w0.heap.size a len cap c (HC.out.below HW.out) HBG.out k (by omega)).mono ?_
        rintro e w' ⟨⟨z, hz0, hz1, rfl⟩, rfl⟩
        go_wp2_with fail
        go_quiet (fail)
        obtain ⟨u, hu⟩ : ∃ u, u = UInt8.ofNat z.toNat := ⟨_, rfl⟩
        have huz : ((u.toNat : Nat) : Int) = z := by rw [hu]; exact ofNat_int z hz0 hz1
        have hbs := HB.out.set k hkn u z huz.symm
        have hml : (l.set k u).length = l.length := by simp
        have hlaw := HPUT.out k hkn u
        have hlk := byte_lt l[k]
        have hal := alike_eq z (l[k].toNat : Int) hz0 hz1 (by omega) hlk (ckVal (l.set k u)) n (by rw [← huz]; exact hlaw)
        rw [HGET.out k hkn, wrap_byte]
        have hcall := HCKL.out _ hml
        obtain ⟨m, hm⟩ : ∃ m, m = l.set k u := ⟨_, rfl⟩
        rw [← hm] at hbs hml hal hcall
        obtain ⟨v, hv⟩ : ∃ v, v = ckVal m := ⟨_, rfl⟩
        rw [← hv] at hal hcall
        rw [hal]
        have hback := fun nq => back_row (P := Try.prog) (w := (wa.setCell ⟨g, k, none⟩ (.int .u8 z)).drewN nq) 22 9 5 Try.underlying22 Try.underlying5 Try.underlying9 hbs l.length cp hml.symm
        have hwb := HW.out.setCell (p := ⟨g, k, none⟩) hgr (.int .u8 z)
        have HWB := Lib.hid (fun nq => (show Below w0.heap.size w0 ((wa.setCell ⟨g, k, none⟩ (.int .u8 z)).drewN nq) from ⟨hwb.os, hwb.tape, hwb.output, hwb.size, hwb.block⟩))
        clear hwb
        have HCALL := Lib.hid hcall
        clear hv hm hal hcall hlaw hml hbs huz hu hcell hfr HB HW
        obtain ⟨wb, hwb⟩ : ∃ wb, wb = wa.setCell ⟨g, k, none⟩ (.int .u8 z) := ⟨_, rfl⟩
        rw [← hwb] at hback HWB ⊢
        clear hwb
        go_wp2_with fail
        refine (HCALL.out _).mono ?_
        rintro e w' ⟨rfl, rfl⟩
        by_cases hvn : v = n
        · subst hvn
          go_wp2
          go_roundw
          case rel => exact ⟨k + 1, by omega, by go_num, HWB.out _⟩
          case measure => simp [intOf]; omega
        · have hvb : (v == n) = false := by simpa using hvn
          go_wp2
          go_roundw
          case rel => exact ⟨k + 1, by omega, by go_num, HWB.out _⟩
          case measure => simp [intOf]; omega
      · go_wp2
        go_loopw [8] (fun i wr => ∃ k : Nat, k ≤ l.length ∧ i = .int .i64 k ∧ Below w0.heap.size w0 wr) (fun i _ => l.length - (intOf i).toNat)
        case atStart => exact ⟨0, by omega, rfl, hbk⟩
        case round =>
          clear hkl hk hbk
          obtain ⟨k, hk, rfl, hbk⟩ := hrel
          have h11 := H11.out
          by_cases hkl : (k : Int) + 1 < (l.length : Int)
          · have hk1 : k + 1 < l.length := by omega
            have hk0 : k < l.length := by omega
            have hbn : BRow (wr.alloc (.cells (bytesRow s (grownCap wr l.length 0 5)) 5 ((bytesRow s (grownCap wr l.length 0 5)).size, (bytesRow s (grownCap wr l.length 0 5)).size + 1))) wr.heap.size l := HNEW.out wr _ _
            have hcell := hbn.cell k hk0
            have hfr := hbn.frozen k hk0
            have hbs1 := hbn.set k hk0 l[k + 1] (s[k + 1]'(by omega)).toNat (by rw [HGET.out (k + 1) hk1])
            have hcell1 := hbs1.cell (k + 1) (by simpa using hk1)
            have hfr1 := hbs1.frozen (k + 1) (by simpa using hk1)
            have HB1 := Lib.hid hbs1
            clear hbn hbs1
            go_wp2_with fail
            go_quiet (fail)
            have hbs := HB1.out.set (k + 1) (by simpa using hk1) l[k] (s[k]'(by omega)).toNat (by rw [HGET.out k hk0])
            have hwb := ((hbk.alloc hbk.size (.cells (bytesRow s (grownCap wr l.length 0 5)) 5 ((bytesRow s (grownCap wr l.length 0 5)).size, (bytesRow s (grownCap wr l.length 0 5)).size + 1))).setCell (p := ⟨wr.heap.size, k, none⟩) hbk.size (.int .u8 ((s[k + 1]'(by omega)).toNat : Int))).setCell (p := ⟨wr.heap.size, k + 1, none⟩) hbk.size (.int .u8 ((s[k]'(by omega)).toNat : Int))
            have hml : ((l.set k l[k + 1]).set (k + 1) l[k]).length = l.length := by simp
            have hlaw := HSWAP.out k hk1
            have hcall := HCKL.out _ hml
            obtain ⟨m, hm⟩ : ∃ m, m = (l.set k l[k + 1]).set (k + 1) l[k] := ⟨_, rfl⟩
            rw [← hm] at hbs hml hlaw hcall
            obtain ⟨v, hv⟩ : ∃ v, v = ckVal m := ⟨_, rfl⟩
            rw [← hv] at hlaw hcall
            have hal := alike_eq (l[k].toNat : Int) (l[k + 1].toNat : Int) (by omega) (byte_lt l[k]) (by omega) (byte_lt l[k + 1]) _ _ hlaw
            rw [← HGET.out k hk0 (by omega), ← HGET.out (k + 1) hk1 (by omega)] at hal
            rw [wrap_byte, wrap_byte]
            obtain ⟨wb, hwbe⟩ : ∃ wb, wb = ((wr.alloc (.cells (bytesRow s (grownCap wr l.length 0 5)) 5 ((bytesRow s (grownCap wr l.length 0 5)).size, (bytesRow s (grownCap wr l.length 0 5)).size + 1))).setCell ⟨wr.heap.size, k, none⟩ (.int .u8 ((s[k + 1]'(by omega)).toNat : Int))).setCell ⟨wr.heap.size, k + 1, none⟩ (.int .u8 ((s[k]'(by omega)).toNat : Int)) := ⟨_, rfl⟩
            rw [← hwbe] at hbs hwb ⊢
            have hback := fun nq => back_row (P := Try.prog) (w := wb.drewN nq) 22 9 5 Try.underlying22 Try.underlying5 Try.underlying9 hbs l.length (grownCap wr l.length 0 5) hml.symm
            have HWB := Lib.hid (fun nq => (show Below w0.heap.size w0 (wb.drewN nq) from ⟨hwb.os, hwb.tape, hwb.output, hwb.size, hwb.block⟩))
            have HCALL := Lib.hid hcall
            rw [hal]
            clear hv hm hal hcall hlaw hml hbs hwb hcell hfr hcell1 hfr1 HB1 hwbe
            go_wp2_with fail
            refine (HCALL.out _).mono ?_
            rintro e w' ⟨rfl, rfl⟩
            by_cases hvn : v = n
            · subst hvn
              go_wp2
              go_roundw
              case rel => exact ⟨k + 1, by omega, by go_num, HWB.out _⟩
              case measure => simp [intOf]; omega
            · have hvb : (v == n) = false := by simpa using hvn
              go_wp2
              go_roundw
              case rel => exact ⟨k + 1, by omega, by go_num, HWB.out _⟩
              case measure => simp [intOf]; omega
          · go_wp2
            go_ret
            exact ⟨rfl, hbk⟩
end Go.Proofs.Ytkpmbpfdlcdeaaa.Ck
