/-
  The walk of the law FnLines.
-/
import Derived.Test.YtkpmbpfdlcdeaaaDoorBig
import Derived.Test.YtkpmbpfdlcdeaaaDoorDrwX
import Derived.Test.YtkpmbpfdlcdeaaaDoorLineL
import Derived.Test.YtkpmbpfdlcdeaaaDoorWordX
import Derived.Test.YtkpmbpfdlcdeaaaDoorLlA
import Derived.Test.YtkpmbpfdlcdeaaaDoorMarkW
namespace Go.Proofs.YtkpmbpfdlcdeaaaDoor.Ll
open Go.RowKit Go.Proofs.YtkpmbpfdlcdeaaaDoor.Kit
set_option linter.unusedVariables false

set_option maxHeartbeats 400000 in
theorem same_any (l : List ByteArray) (ad1 ad2 : Option Addr) (c1 c2 : Nat) (w : World) (h1 : SRow w ad1 l) (h2 : SRow w ad2 l) (hl : l.length ≤ maxLen) :
    Calls Tryd.prog 18 #[.slice ad1 l.length c1, .slice ad2 l.length c2] w fun e w' => e = .returned (.bool true) ∧ w.grownBy w' none := by
  unfold maxLen at hl
  obtain ⟨n, hn⟩ : ∃ n, n = l.length := ⟨_, rfl⟩
  rw [← hn] at hl ⊢
  have HN := Lib.hid hn
  have H1 := Lib.hid h1
  have H2 := Lib.hid h2
  clear hn h1 h2
  go_enter Tryd.func18, Tryd.ntmps18
  go_wp2
  go_loopw [5] (fun i wr => ∃ j : Nat, j ≤ n ∧ i = .int .i64 j ∧ w.grownBy wr none) (fun i _ => n - (intOf i).toNat)
  case atStart => exact ⟨0, by omega, rfl, grownRefl _ _⟩
  case round =>
    obtain ⟨j, hj, rfl, hg⟩ := hrel
    by_cases hlt : (j : Int) < (n : Int)
    · have hjn : j < l.length := by have := HN.out; omega
      obtain ⟨g1, e1, hlt1, hc1⟩ := H1.out j hjn
      obtain ⟨g2, e2, hlt2, hc2⟩ := H2.out j hjn
      obtain ⟨s, hs⟩ : ∃ s, s = l[j] := ⟨_, rfl⟩
      rw [← hs] at hc1 hc2
      subst e1 e2
      have hd1 : wr.cell? ⟨g1, j, none⟩ = some (.string s) := hg.cell hc1 (by simp)
      have hd2 : wr.cell? ⟨g2, j, none⟩ = some (.string s) := hg.cell hc2 (by simp)
      clear hc1 hc2 hs
      go_wp2
      go_quiet (fail)
      go_wp2
      go_roundw
      case rel => exact ⟨j + 1, by omega, by go_num, grownTrans hg ⟨rfl, rfl, rfl, Nat.le_refl _, fun _ _ _ => rfl⟩⟩
      case measure => simp [intOf]; omega
    · go_wp2
      go_ret
      exact ⟨rfl, hg⟩


set_option maxHeartbeats 2000000 in
theorem fnLines_walk (w0 : World) (a : Option Addr) (len cap : Nat) (zs : List Int) (h : IsRow .u8 w0 a len cap zs) (hsh : w0.ShapedOpen Tryd.prog) :
    Calls Tryd.prog 4 #[.slice a len cap] w0 fun e w' => e = .returned (.bool true) ∧ Below w0.heap.size w0 w' := by
  have hcode := h.codeIs
  obtain ⟨c, hc⟩ : ∃ c : Nat → Int, c = fun i => zs.getD i 0 := ⟨_, rfl⟩
  rw [← hc] at hcode
  clear hc h
  have HC := Lib.hid hcode
  have hl := hcode.le
  clear hcode
  obtain ⟨m, hm⟩ := Tryd.laysM146.s1_3 w0 hsh
  clear hsh
  have hlt := World.block_lt_of_cell? w0 _ hm
  have HM := Lib.hid hm
  clear hm
  by_cases hbig : (1048576 : Int) < (len : Int)
  · go_enter Tryd.func4, Tryd.ntmps4
    go_wp2_with fail
    refine (Draw.big_yes _ a len cap hl hbig).mono ?_
    rintro e w' ⟨rfl, rfl⟩
    go_wp2_with fail
    go_ret
    exact ⟨rfl, Below.refl _ _⟩
  · have hDL := fun w1 hcd hB => Drw.lines_x w1 w0.heap.size a len cap c hcd hB
    have hDW := fun w1 hcd hB => Drw.words_x w1 w0.heap.size a len cap c hcd hB
    have hsz := drawF_size Drw.linesL c len Drw.linesL_size
    have htz := drawF_size Drw.wordsL c len Drw.wordsL_size
    obtain ⟨s, hs⟩ : ∃ s, s = drawF Drw.linesL c len := ⟨_, rfl⟩
    obtain ⟨t, ht⟩ : ∃ t, t = drawF Drw.wordsL c len := ⟨_, rfl⟩
    rw [← hs] at hDL hsz
    rw [← ht] at hDW htz
    have HDL := Lib.hid hDL
    have HDW := Lib.hid hDW
    clear hs ht hDL hDW
    have hnl := Line.lnsB_le s
    have hnw := Word.wdsB_le t
    go_enter Tryd.func4, Tryd.ntmps4
    go_wp2_with fail
    refine (Draw.big_no _ a len cap hl hbig).mono ?_
    rintro e w' ⟨rfl, rfl⟩
    go_wp2_with fail
    refine (HDL.out _ HC.out (Nat.le_refl _)).mono ?_
    rintro e w1 ⟨rfl, hb1⟩
    go_wp2_with fail
    refine (row_of rfl (Line.lines_any s m _ (by omega) ((hb1.cell (p := ⟨1, 0, none⟩) hlt).trans HM.out))).mono ?_
    rintro e w2 ⟨⟨ad2, cap2, rfl, hown2, hr2⟩, hb2⟩
    have hB2 := hb1.trans (hb2.mono hb1.size)
    have HR2 := Lib.hid hr2
    clear hown2 hr2
    go_wp2
    go_loop [5, 6] (fun jn i => ∃ k : Nat, k ≤ (Line.lnsB s).length ∧ i = .int .i64 k ∧ jn = .string (jB (Line.lnsB s) k)) (fun _ i => (Line.lnsB s).length - (intOf i).toNat)
    case atStart => exact ⟨0, by omega, rfl, rfl⟩
    case round =>
      obtain ⟨k, hk, rfl, rfl⟩ := hrel
      by_cases hlt1 : (k : Int) < ((Line.lnsB s).length : Int)
      · have hkl : k < (Line.lnsB s).length := by omega
        obtain ⟨g, hge, hgl, hcell⟩ := HR2.out k hkl
        have hjs := jB_size s k (by omega)
        have hls := line_size s k hkl
        have hst : jB (Line.lnsB s) (k + 1) = (if k = 0 then jB (Line.lnsB s) k else jB (Line.lnsB s) k ++ ⟨#[10]⟩) ++ (Line.lnsB s)[k] := by
          rw [jB, List.getD_eq_getElem?_getD, List.getElem?_eq_getElem hkl]; rfl
        obtain ⟨x, hx⟩ : ∃ x, x = (Line.lnsB s)[k] := ⟨_, rfl⟩
        rw [← hx] at hcell hst hls
        obtain ⟨jk, hjk⟩ : ∃ jk, jk = jB (Line.lnsB s) k := ⟨_, rfl⟩
        rw [← hjk] at hst hjs ⊢
        clear hx hjk
        subst hge
        by_cases hk0 : k = 0
        · subst hk0
          rw [if_pos rfl] at hst
          have HS := Lib.hid hst
          have hadd : ∀ wx : World, (Op.stringOp .add jk x).run Tryd.prog wx = .ok (.string (jk ++ x)) wx := fun wx => run_string_add_sum wx _ _ (by omega)
          clear hst
          go_wp2
          go_round
          case rel => exact ⟨1, by omega, rfl, by rw [HS.out]⟩
          case measure => simp [intOf]; omega
        · rw [if_neg hk0] at hst
          have HS := Lib.hid hst
          have hkp : (0 : Int) < (k : Int) := by omega
          have e10 : (ByteArray.mk #[10]).size = 1 := rfl
          have hadd1 : ∀ wx : World, (Op.stringOp .add jk ⟨#[10]⟩).run Tryd.prog wx = .ok (.string (jk ++ ⟨#[10]⟩)) wx := fun wx => run_string_add_sum wx _ _ (by omega)
          have hadd : ∀ wx : World, (Op.stringOp .add (jk ++ ⟨#[10]⟩) x).run Tryd.prog wx = .ok (.string (jk ++ ⟨#[10]⟩ ++ x)) wx := fun wx => run_string_add_sum wx _ _ (by rw [ByteArray.size_append]; omega)
          clear hst e10
          go_wp2
          go_round
          case rel => exact ⟨k + 1, by omega, by go_num, by rw [HS.out]⟩
          case measure => simp [intOf]; omega
      · obtain rfl : k = (Line.lnsB s).length := by omega
        rw [jB_end s]
        go_wp2_with fail
        refine (HDW.out _ (HC.out.below hB2) hB2.size).mono ?_
        rintro e w3 ⟨rfl, hb3⟩
        have htz' : t.size ≤ 12 := by omega
        have hr23 := srow_keep HR2.out HR2.out (grown_of_below hb3 none) (by simp)
        have hB3 := hB2.trans (hb3.mono hB2.size)
        go_wp2_with fail
        refine (row_of rfl (Word.words_any t _ (by omega))).mono ?_
        rintro e w4 ⟨⟨ad4, cap4, rfl, hown4, hr4⟩, hb4⟩
        have hr24 := srow_keep HR2.out hr23 (grown_of_below hb4 none) (by simp)
        have hB4 := hB3.trans (hb4.mono hB3.size)
        have HR4 := Lib.hid hr4
        have HR24 := Lib.hid hr24
        clear hown4 hr4 hr23 hr24
        go_wp2
        go_loop [8, 9] (fun ln i => ∃ k : Nat, k ≤ (Word.wdsB t).length ∧ i = .int .i64 k ∧ ln = .string (wB (Word.wdsB t) k)) (fun _ i => (Word.wdsB t).length - (intOf i).toNat)
        case atStart => exact ⟨0, by omega, rfl, rfl⟩
        case round =>
          obtain ⟨k, hk, rfl, rfl⟩ := hrel
          by_cases hlt1 : (k : Int) < ((Word.wdsB t).length : Int)
          · have hkl : k < (Word.wdsB t).length := by omega
            obtain ⟨g, hge, hgl, hcell⟩ := HR4.out k hkl
            have hjs := wB_size t htz' k (by omega)
            have hls := word_size t htz' k hkl
            have hst : wB (Word.wdsB t) (k + 1) = (wB (Word.wdsB t) k ++ (Word.wdsB t)[k]) ++ ⟨#[32]⟩ := by
              rw [wB, List.getD_eq_getElem?_getD, List.getElem?_eq_getElem hkl]; rfl
            obtain ⟨x, hx⟩ : ∃ x, x = (Word.wdsB t)[k] := ⟨_, rfl⟩
            rw [← hx] at hcell hst hls
            obtain ⟨jk, hjk⟩ : ∃ jk, jk = wB (Word.wdsB t) k := ⟨_, rfl⟩
            rw [← hjk] at hst hjs ⊢
            clear hx hjk
            subst hge
            have HS := Lib.hid hst
            have e32 : (ByteArray.mk #[32]).size = 1 := rfl
            have hadd1 : ∀ wx : World, (Op.stringOp .add jk x).run Tryd.prog wx = .ok (.string (jk ++ x)) wx := fun wx => run_string_add_sum wx _ _ (by omega)
            have hadd : ∀ wx : World, (Op.stringOp .add (jk ++ x) ⟨#[32]⟩).run Tryd.prog wx = .ok (.string (jk ++ x ++ ⟨#[32]⟩)) wx := fun wx => run_string_add_sum wx _ _ (by rw [ByteArray.size_append]; omega)
            clear hst e32
            go_wp2
            go_round
            case rel => exact ⟨k + 1, by omega, by go_num, by rw [HS.out]⟩
            case measure => simp [intOf]; omega
          · obtain rfl : k = (Word.wdsB t).length := by omega
            have hls := wB_size t htz' (Word.wdsB t).length (Nat.le_refl _)
            have hwb := words_back t
            obtain ⟨lw, hlw⟩ : ∃ lw, lw = wB (Word.wdsB t) (Word.wdsB t).length := ⟨_, rfl⟩
            rw [← hlw] at hls hwb ⊢
            have hwords := fun w h => Word.words_any lw w h
            rw [hwb] at hwords
            have HWD := Lib.hid hwords
            clear hwb hlw hwords
            go_wp2_with fail
            refine (row_of rfl (Line.specLines_any s _ (by omega))).mono ?_
            rintro e w5 ⟨⟨ad5, cap5, rfl, hown5, hr5⟩, hb5⟩
            have hr25 := srow_keep HR2.out HR24.out (grown_of_below hb5 none) (by simp)
            have hr45 := srow_keep HR4.out HR4.out (grown_of_below hb5 none) (by simp)
            have hB5 := hB4.trans (hb5.mono hB4.size)
            go_wp2_with fail
            refine (same_any (Line.lnsB s) ad2 ad5 cap2 cap5 _ hr25 hr5 (by unfold maxLen; omega)).mono ?_
            rintro e w6 ⟨rfl, hg6⟩
            have hr46 := srow_keep HR4.out hr45 hg6 (by simp)
            have hB6 := hB5.trans ((below_of_none hg6).mono hB5.size)
            go_wp2_with fail
            refine (row_of rfl (HWD.out _ (by omega))).mono ?_
            rintro e w7 ⟨⟨ad7, cap7, rfl, hown7, hr7⟩, hb7⟩
            have hr47 := srow_keep HR4.out hr46 (grown_of_below hb7 none) (by simp)
            have hB7 := hB6.trans (hb7.mono hB6.size)
            go_wp2_with fail
            refine (same_any (Word.wdsB t) ad7 ad4 cap7 cap4 _ hr7 hr47 (by unfold maxLen; omega)).mono ?_
            rintro e w8 ⟨rfl, hg8⟩
            have hr48 := srow_keep HR4.out hr47 hg8 (by simp)
            have hB8 := hB7.trans ((below_of_none hg8).mono hB7.size)
            go_wp2_with fail
            refine (HDW.out _ (HC.out.below hB8) hB8.size).mono ?_
            rintro e w9 ⟨rfl, hb9⟩
            have hr49 := srow_keep HR4.out hr48 (grown_of_below hb9 none) (by simp)
            have hB9 := hB8.trans (hb9.mono hB8.size)
            go_wp2_with fail
            refine (row_of rfl (Word.specWords_any t _ (by omega))).mono ?_
            rintro e w10 ⟨⟨ad10, cap10, rfl, hown10, hr10⟩, hb10⟩
            have hr410 := srow_keep HR4.out hr49 (grown_of_below hb10 none) (by simp)
            have hB10 := hB9.trans (hb10.mono hB9.size)
            go_wp2_with fail
            refine (same_any (Word.wdsB t) ad4 ad10 cap4 cap10 _ hr410 hr10 (by unfold maxLen; omega)).mono ?_
            rintro e w11 ⟨rfl, hg11⟩
            have hB11 := hB10.trans ((below_of_none hg11).mono hB10.size)
            go_wp2_with fail
            go_ret
            exact ⟨rfl, hB11⟩
end Go.Proofs.YtkpmbpfdlcdeaaaDoor.Ll
