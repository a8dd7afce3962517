/-
  The walk of l01Text: a text of n bytes, whatever the cursor.
-/
import Derived.Test.YtgbdmpfojiihnaaDoorProg
import Derived.Test.YtgbdmpfojiihnaaDoorDrwW
import Derived.Test.YtgbdmpfojiihnaaDoorKit
import Derived.Test.YtgbdmpfojiihnaaDoorTxtA
import Derived.RangeFuncBox
namespace Go.Proofs.YtgbdmpfojiihnaaDoor.Txt
open Go.RowKit Go.Proofs.YtgbdmpfojiihnaaDoor.Kit Go.Proofs.YtgbdmpfojiihnaaDoor.Drw
set_option linter.unusedVariables false
theorem infoByte : (Tryd.prog.info? 5).map (fun i => (i.zero, i.size, i.bytes)) = some (some (.int .u8 0), 1, 1) := by kernel_rfl

theorem wnt_fresh {B : Nat} {w w1 w2 : World} {cb : Nat} {T : TypeId} {a : Option Addr} {len cap : Nat} {c : Nat → Int} {s : Nat × Int} (h : Wnt B w w1 cb T a len cap c s) (hcb : cb < w.heap.size)
    (hb : Below w.heap.size w1 w2) : Wnt B w w2 cb T a len cap c s :=
  ⟨h.dr.keep (hb.mono (Nat.le_of_lt (Nat.lt_of_le_of_lt h.dr.le hcb))) (hb.block cb hcb), ⟨hb.os.trans h.grown.os, hb.tape.trans h.grown.tape, hb.output.trans h.grown.output, Nat.le_trans h.grown.size hb.size,
    fun k hk hne => (hb.block k hk).trans (h.grown.block k hk hne)⟩⟩
theorem own_shape {w : World} {B : Nat} {e : TypeId} {v : Value} {n : Nat} {xs : List Value} (h : w.ownsRow B e 1 v n xs) : ∃ ad cap, v = .slice ad n cap := by
  rcases h.2 with ⟨rfl, h0⟩ | ⟨g, cap, cur, rfl, _⟩
  · subst h0; exact ⟨_, _, rfl⟩
  · exact ⟨_, _, rfl⟩
theorem own_draw {w w1 : World} {B cb : Nat} {e : TypeId} {v : Value} {n : Nat} {xs : List Value} (h : w.ownsRow B e 1 v n xs) (hcb : cb < B) (hg : w.grownBy w1 (some cb)) : w1.ownsRow B e 1 v n xs :=
  h.kept hg (by
    cases hv : v.ownBlock with
    | none => exact .inl rfl
    | some k => exact .inr (fun e => by cases e; have := (h.lt _ hv).1; omega))
theorem snoc_int (l : List UInt8) (x : Int) (h0 : 0 ≤ x) (h1 : x < 256) : Lib.byteCells l ++ [Value.int .u8 x] = Lib.byteCells (l ++ [UInt8.ofNat x.toNat]) := by
  rw [← byteCells_snoc]
  congr 3
  have : (UInt8.ofNat x.toNat).toNat = x.toNat := by simp; omega
  rw [this]; omega

theorem cut_row {P : Program} {w : World} {B : Nat} {ad : Option Addr} {o n cp : Nat} {l : List UInt8} (src dst e : TypeId) (hs : P.underlying src = some (.slice e)) (he : P.underlying e = some (.int .u8)) (hd : P.underlying dst = some .string)
    (h : w.ownsRow B e 1 (.slice ad o cp) o (Lib.byteCells l)) (hn : n ≤ o) : (convert src dst (.slice ad n cp)).run P w = .ok (.string ⟨(l.take n).toArray⟩) w := by
  have hlen : l.length = o := by have := h.1; simpa [Lib.byteCells] using this
  have htl : (l.take n).length = n := by rw [List.length_take]; omega
  rcases h.2 with ⟨e1, h0⟩ | ⟨g, cap, cur, e1, h1, h2, h3, h4, h5, h6⟩
  · simp only [Value.slice.injEq] at e1
    obtain ⟨rfl, -, rfl⟩ := e1
    obtain rfl : n = 0 := by omega
    rw [run_convert_bytes_string w src dst e none 0 0 hs he hd]
    rfl
  · simp only [Value.slice.injEq] at e1
    obtain ⟨rfl, -, rfl⟩ := e1
    have hb := run_convert_bytes_back (P := P) w src dst e ⟨g, 0, none⟩ cp (l.take n) hs he hd (fun j hj => h.cells (g := g) rfl j _ (by have hjl : j < l.length := by { rw [List.length_take] at hj; omega }; simp [Lib.byteCells, hjl]))
    rw [htl] at hb
    exact hb

set_option maxRecDepth 100000 in
set_option maxHeartbeats 2000000 in
theorem text_x (w : World) (cb B : Nat) (a : Option Addr) (len cap : Nat) (c : Nat → Int) (s0 : Nat × Int) (hd : Drw B w cb 59 a len cap c s0) (hlen : len ≤ 1048576) (n : Nat) (hn : n ≤ 200) :
    Calls Tryd.prog 20 #[.pointer (some ⟨cb, 0, none⟩), .int .i64 n] w fun e w' => ∃ (l : List UInt8) (s : Nat × Int), l.length = n ∧ e = .returned (.string ⟨l.toArray⟩) ∧ Wnt B w w' cb 59 a len cap c s := by
  obtain ⟨i0, hi, hz0, hz1, hz2⟩ := info_parts infoByte
  have hcb := hd.lt
  have HD := Lib.hid hd
  have HLN := Lib.hid hlen
  have HNN := Lib.hid hn
  clear hd hlen hn
  go_enter Tryd.func20, Tryd.ntmps20
  go_wp2
  go_loopg [5] (left n len 0 s0) (fun gk v wr => ∃ (l : List UInt8) (s : Nat × Int) (o : Nat), Hid (o = l.length) ∧ Hid (o ≤ n + 20) ∧ Hid (gk = left n len o s) ∧ wr.ownsRow w.heap.size 5 1 v o (Lib.byteCells l) ∧ Wnt B w wr cb 59 a len cap c s)
  case atStart => exact ⟨[], s0, 0, Lib.hid rfl, Lib.hid (by omega), Lib.hid rfl, World.ownsRow_lit _ _ _ (Nat.le_refl _) (by unfold maxLen; omega) rfl, HD.out.refl.alloc _⟩
  case round =>
    obtain ⟨l, s, o, ho, hob, HK, hown, hw⟩ := hrel
    obtain ⟨ad, cp, rfl⟩ := own_shape hown
    by_cases hlt : (o : Int) < (n : Int)
    · have hx := belowF_bd c len 5 s (by omega)
      have hcall := below_x wr cb B a len cap c s hw.dr 5 (by omega) (by omega)
      have hL3 := left_three n len o c s 9 4
      have hL3' := left_three n len o c s o 20
      have hL1 := left_one n len o c s
      obtain ⟨x, hxe⟩ : ∃ x, x = (belowF c len 5 s).1 := ⟨_, rfl⟩
      obtain ⟨s1, hs1⟩ : ∃ s1, s1 = (belowF c len 5 s).2 := ⟨_, rfl⟩
      rw [← hxe] at hx hcall hL3 hL3' hL1
      rw [← hs1] at hcall hL3 hL3' hL1
      clear hxe hs1
      obtain ⟨hx0, hx5⟩ := hx
      have HL1 := Lib.hid hL1
      have HL3 := Lib.hid hL3
      have HL3' := Lib.hid hL3'
      have HC := Lib.hid hcall
      have HX5 := Lib.hid hx5
      clear hL1 hL3 hL3' hcall hx5
      go_wp2_with fail
      refine HC.out.mono ?_
      rintro e w1 ⟨rfl, hw1⟩
      have hown1 := own_draw hown hcb hw1.grown
      have hW1 := hw.trans hw1
      clear HC hown hw hw1
      by_cases hx0' : x = 0
      · subst hx0'
        have hy := byteF_bd c len s1
        have hcall := byte_x w1 cb B a len cap c s1 hW1.dr
        obtain ⟨y, hye⟩ : ∃ y, y = (byteF c len s1).1 := ⟨_, rfl⟩
        obtain ⟨s2, hs2⟩ : ∃ s2, s2 = (byteF c len s1).2 := ⟨_, rfl⟩
        rw [← hye] at hy hcall
        rw [← hs2] at hcall
        have HC := Lib.hid hcall
        have HY := Lib.hid hy
        clear hye hs2 hcall hy
        go_wp2_with fail
        refine HC.out.mono ?_
        rintro e w2 ⟨rfl, hw2⟩
        have hown2 := own_draw hown1 hcb hw2.grown
        have hW2 := hW1.trans hw2
        clear HC hown1 hW1 hw2
        go_wp2_with (at_builtin; refine append_one rfl _ _ 22 rfl 5 i0 _ 1 Tryd.underlying22 hi hz0 hz1 hz2 rfl (by decide) rfl hown2 rfl rfl (by have := hob.out; have := HNN.out; omega) (Below.refl _ _) hW2.grown.size ?_; intro v' w' hown' hbel' _ _)
        have hY := HY.out
        have hh := hown'
        rw [snoc_int l _ (by omega) (by omega)] at hh
        go_roundg (left n len (o + 1) s2)
        case measure => rw [HK.out]; exact left_grow _ _ _ _ _ _ (by omega) HLN.out (by omega)
        case rel => exact ⟨_, s2, o + 1, Lib.hid (by have := ho.out; simp; omega), Lib.hid (by have := hob.out; omega), Lib.hid rfl, hh, wnt_fresh hW2 hcb hbel'⟩
      by_cases hx1' : x = 1
      · subst hx1'
        have hL3 := HL3.out (.inl rfl)
        have hy := belowF_bd c len 9 s1 (by omega)
        have hcall := below_x w1 cb B a len cap c s1 hW1.dr 9 (by omega) (by omega)
        obtain ⟨k, hye⟩ : ∃ k, k = (belowF c len 9 s1).1 := ⟨_, rfl⟩
        obtain ⟨s2, hs2⟩ : ∃ s2, s2 = (belowF c len 9 s1).2 := ⟨_, rfl⟩
        rw [← hye] at hy hcall
        rw [← hs2] at hcall hL3
        obtain ⟨hk0, hk1⟩ := hy
        have HC := Lib.hid hcall
        clear hye hs2 hcall
        go_wp2_with fail
        refine HC.out.mono ?_
        rintro e w2 ⟨rfl, hdraw⟩
        have hown2 := own_draw hown1 hcb hdraw.grown
        have hW2 := hW1.trans hdraw
        clear HC hown1 hW1 hdraw
        have hy := belowF_bd c len 4 s2 (by omega)
        have hcall := below_x w2 cb B a len cap c s2 hW2.dr 4 (by omega) (by omega)
        obtain ⟨z, hye⟩ : ∃ z, z = (belowF c len 4 s2).1 := ⟨_, rfl⟩
        obtain ⟨s3, hs2⟩ : ∃ s3, s3 = (belowF c len 4 s2).2 := ⟨_, rfl⟩
        rw [← hye] at hy hcall
        rw [← hs2] at hcall hL3
        obtain ⟨hzz0, hzz1⟩ := hy
        have HC := Lib.hid hcall
        clear hye hs2 hcall
        go_wp2_with fail
        refine HC.out.mono ?_
        rintro e w3 ⟨rfl, hdraw⟩
        have hown3 := own_draw hown2 hcb hdraw.grown
        have hW3 := hW2.trans hdraw
        clear HC hown2 hW2 hdraw
        obtain ⟨k, rfl⟩ := Int.eq_ofNat_of_zero_le hk0
        have HL := Lib.hid hL3
        have HKB := Lib.hid hk1
        clear hL3 hk1 hk0
        go_wp2
        go_loopw [5, 8] (fun v i wr => ∃ (j q : Nat) (l' : List UInt8), j ≤ k ∧ i = .int .i64 j ∧ Hid (q = o + j) ∧ Hid (q = l'.length) ∧ wr.ownsRow w.heap.size 5 1 v q (Lib.byteCells l') ∧ Wnt B w wr cb 59 a len cap c s3) (fun _ i _ => k - (intOf i).toNat)
        case atStart => exact ⟨0, o, l, by omega, rfl, Lib.hid rfl, ho, hown3, hW3⟩
        case round =>
          obtain ⟨j, q, l', hj, rfl, hq, hql, hownj, hWj⟩ := hrel
          by_cases hjk : (j : Int) < (k : Int)
          · have hk9 := HKB.out
            go_wp2_with (at_builtin; refine append_one rfl _ _ 22 rfl 5 i0 _ 1 Tryd.underlying22 hi hz0 hz1 hz2 rfl (by decide) rfl hownj rfl rfl (by have := hob.out; have := HNN.out; have := HKB.out; have := hq.out; omega) (Below.refl _ _) hWj.grown.size ?_; intro v' w' hown' hbel' _ _)
            have hh := hown'
            rw [snoc_int l' _ (by omega) (by omega)] at hh
            go_roundw
            case rel => exact ⟨j + 1, q + 1, _, by omega, by go_num, Lib.hid (by have := hq.out; omega), Lib.hid (by have := hql.out; simp; omega), hh, wnt_fresh hWj hcb hbel'⟩
            case measure => simp [intOf]; omega
          · obtain rfl : j = k := by omega
            go_wp2
            go_roundg (left n len (o + j) s3)
            case measure =>
              rw [HK.out]
              by_cases hj0 : j = 0
              · subst hj0; exact HL.out
              · exact left_grow _ _ _ _ _ _ (by omega) HLN.out (by omega)
            case rel => exact ⟨l', s3, o + j, Lib.hid (by have := hq.out; have := hql.out; omega), Lib.hid (by have := HKB.out; omega), Lib.hid rfl, by rw [← hq.out]; exact hownj, hWj⟩
      by_cases hx2' : x = 2
      · subst hx2'
        by_cases ho0 : (0 : Int) < (o : Int)
        · have hL3 := HL3'.out (.inr rfl)
          have hol : (o : Int) ≤ 200 := by have := HNN.out; omega
          have hy := belowF_bd c len o s1 (by omega)
          have hcall := below_x w1 cb B a len cap c s1 hW1.dr o (by omega) (by omega)
          obtain ⟨f, hye⟩ : ∃ f, f = (belowF c len o s1).1 := ⟨_, rfl⟩
          obtain ⟨s2, hs2⟩ : ∃ s2, s2 = (belowF c len o s1).2 := ⟨_, rfl⟩
          rw [← hye] at hy hcall
          rw [← hs2] at hcall hL3
          obtain ⟨hf0, hf1⟩ := hy
          have HC := Lib.hid hcall
          clear hye hs2 hcall
          go_wp2_with fail
          refine HC.out.mono ?_
          rintro e w2 ⟨rfl, hdraw⟩
          have hown2 := own_draw hown1 hcb hdraw.grown
          have hW2 := hW1.trans hdraw
          clear HC hown1 hW1 hdraw
          have hy := belowF_bd c len 20 s2 (by omega)
          have hcall := below_x w2 cb B a len cap c s2 hW2.dr 20 (by omega) (by omega)
          obtain ⟨k, hye⟩ : ∃ k, k = (belowF c len 20 s2).1 := ⟨_, rfl⟩
          obtain ⟨s3, hs2⟩ : ∃ s3, s3 = (belowF c len 20 s2).2 := ⟨_, rfl⟩
          rw [← hye] at hy hcall
          rw [← hs2] at hcall hL3
          obtain ⟨hk0, hk1⟩ := hy
          have HC := Lib.hid hcall
          clear hye hs2 hcall
          go_wp2_with fail
          refine HC.out.mono ?_
          rintro e w3 ⟨rfl, hdraw⟩
          have hown3 := own_draw hown2 hcb hdraw.grown
          have hW3 := hW2.trans hdraw
          clear HC hown2 hW2 hdraw
          obtain ⟨k, rfl⟩ := Int.eq_ofNat_of_zero_le hk0
          obtain ⟨f, rfl⟩ := Int.eq_ofNat_of_zero_le hf0
          have HL := Lib.hid hL3
          clear hL3 hk0 hf0
          go_wp2
          go_loopw [5, 11] (fun v i wr => ∃ (j q : Nat) (l' : List UInt8), j ≤ k ∧ i = .int .i64 j ∧ Hid (q = o + j) ∧ Hid (q = l'.length) ∧ wr.ownsRow w.heap.size 5 1 v q (Lib.byteCells l') ∧ Wnt B w wr cb 59 a len cap c s3) (fun _ i _ => k - (intOf i).toNat)
          case atStart => exact ⟨0, o, l, by omega, rfl, Lib.hid rfl, ho, hown3, hW3⟩
          case round =>
            obtain ⟨j, q, l', hj, rfl, hq, hql, hownj, hWj⟩ := hrel
            have hq' := hq.out
            have hql' := hql.out
            obtain ⟨q', rfl⟩ : ∃ q', q = q' + 1 := ⟨q - 1, by omega⟩
            obtain ⟨gb, cpj, rfl⟩ := ownsRow_succ hownj
            by_cases hjk : (j : Int) < (k : Int)
            · have hfj : (f : Int) + (j : Int) < ((q' + 1 : Nat) : Int) := by omega
              obtain ⟨u, hu⟩ : ∃ u, l'[f + j]? = some u := ⟨_, List.getElem?_eq_getElem (by omega)⟩
              have hcell : wr.cell? ⟨gb, f + j, none⟩ = some (.int .u8 (u.toNat : Int)) := by
                rw [hownj.cellAt (f + j) (by omega)]
                simp [Lib.byteCells, hu]
              clear hq' hql' hu
              go_wp2_with (at_builtin; refine append_one rfl _ _ 22 rfl 5 i0 _ 1 Tryd.underlying22 hi hz0 hz1 hz2 rfl (by decide) rfl hownj rfl rfl (by have := hob.out; have := HNN.out; have := hq.out; omega) (Below.refl _ _) hWj.grown.size ?_; intro v' w' hown' hbel' _ _)
              have hh := hown'
              rw [byteCells_snoc] at hh
              go_roundw
              case rel => exact ⟨j + 1, q' + 1 + 1, _, by omega, by go_num, Lib.hid (by have := hq.out; omega), Lib.hid (by have := hql.out; simp; omega), hh, wnt_fresh hWj hcb hbel'⟩
              case measure => simp [intOf]; omega
            · obtain rfl : j = k := by omega
              clear hq' hql'
              go_wp2
              go_roundg (left n len (o + j) s3)
              case measure =>
                rw [HK.out]
                by_cases hj0 : j = 0
                · subst hj0; exact HL.out
                · exact left_grow _ _ _ _ _ _ (by omega) HLN.out (by omega)
              case rel => exact ⟨l', s3, o + j, Lib.hid (by have := hq.out; have := hql.out; omega), Lib.hid (by omega), Lib.hid rfl, by rw [← hq.out]; exact hownj, hWj⟩
        · go_wp2
          go_roundg (left n len o s1)
          case measure => rw [HK.out]; exact HL1.out (by trivial)
          case rel => exact ⟨l, s1, o, ho, hob, Lib.hid rfl, hown1, hW1⟩
      · have hx3 : ¬ x = 0 := hx0'
        have hy := belowF_bd c len 26 s1 (by omega)
        have hcall := below_x w1 cb B a len cap c s1 hW1.dr 26 (by omega) (by omega)
        obtain ⟨y, hye⟩ : ∃ y, y = (belowF c len 26 s1).1 := ⟨_, rfl⟩
        obtain ⟨s2, hs2⟩ : ∃ s2, s2 = (belowF c len 26 s1).2 := ⟨_, rfl⟩
        rw [← hye] at hy hcall
        rw [← hs2] at hcall
        obtain ⟨hy0, hy1⟩ := hy
        have HC := Lib.hid hcall
        clear hye hs2 hcall
        go_wp2_with fail
        refine HC.out.mono ?_
        rintro e w2 ⟨rfl, hdraw⟩
        have hown2 := own_draw hown1 hcb hdraw.grown
        have hW2 := hW1.trans hdraw
        clear HC hown1 hW1 hdraw
        go_wp2_with (at_builtin; refine append_one rfl _ _ 22 rfl 5 i0 _ 1 Tryd.underlying22 hi hz0 hz1 hz2 rfl (by decide) rfl hown2 rfl rfl (by have := hob.out; have := HNN.out; omega) (Below.refl _ _) hW2.grown.size ?_; intro v' w' hown' hbel' _ _)
        have hh := hown'
        rw [snoc_int l _ (by omega) (by omega)] at hh
        go_roundg (left n len (o + 1) s2)
        case measure => rw [HK.out]; exact left_grow _ _ _ _ _ _ (by omega) HLN.out (by omega)
        case rel => exact ⟨_, s2, o + 1, Lib.hid (by have := ho.out; simp; omega), Lib.hid (by have := hob.out; omega), Lib.hid rfl, hh, wnt_fresh hW2 hcb hbel'⟩
    · have hno : (n : Int) ≤ (o : Int) := by omega
      have hol := ho.out
      have hcv := cut_row (P := Tryd.prog) (n := n) 22 9 5 Tryd.underlying22 Tryd.underlying5 Tryd.underlying9 hown (by omega)
      have HO := Lib.hid (show (l.take n).length = n by rw [List.length_take]; omega)
      clear hol
      rcases hown.2 with ⟨e, h0⟩ | ⟨g, cap', cur, e, _, _, hcp, _⟩
      · simp only [Value.slice.injEq] at e
        obtain ⟨rfl, rfl, rfl⟩ := e
        obtain rfl : n = 0 := by omega
        go_wp2
        go_ret
        exact ⟨rfl, s.1, s.2, hw⟩
      · simp only [Value.slice.injEq] at e
        obtain ⟨rfl, -, rfl⟩ := e
        go_wp2
        go_ret
        exact ⟨l.take n, HO.out, rfl, s.1, s.2, hw⟩
end Go.Proofs.YtgbdmpfojiihnaaDoor.Txt
