/-
  The walk of the specification's Words: a row of the call's own with the words.
-/
import Derived.Test.YtjcopkjapnieoaaDoorProg
import Derived.Test.YtjcopkjapnieoaaDoorWordA
import Derived.WalkLawsBesides
import Derived.Deep.LoopGhost
namespace Go.Proofs.YtjcopkjapnieoaaDoor.Word
open Go.RowKit Go.Proofs.YtjcopkjapnieoaaDoor.Kit
set_option linter.unusedVariables false
theorem infoStr : (Tryd.prog.info? 9).map (fun i => (i.zero, i.size, i.bytes)) = some (some (.string ByteArray.empty), 1, 16) := by kernel_rfl
theorem str_oneCell (s : ByteArray) : (Value.string s).oneCell' = true := rfl
theorem blank_yes (c : UInt8) (w : World) (h : isGap c) :
    Calls Tryd.prog 19 #[.int .u8 c.toNat] w fun e w' => e = .returned (.bool true) ∧ w = w' := by
  have hn := gap_num c h
  obtain ⟨x, hx⟩ : ∃ x : Int, x = (c.toNat : Int) := ⟨_, rfl⟩
  rw [← hx] at hn ⊢
  clear hx h
  rcases hn with rfl | rfl
  · go_enter Tryd.func19, Tryd.ntmps19
    go_wp2
    go_ret
    exact ⟨rfl, rfl⟩
  · go_enter Tryd.func19, Tryd.ntmps19
    go_wp2
    go_ret
    exact ⟨rfl, rfl⟩
theorem blank_no (c : UInt8) (w : World) (h : ¬ isGap c) :
    Calls Tryd.prog 19 #[.int .u8 c.toNat] w fun e w' => e = .returned (.bool false) ∧ w = w' := by
  have hn := not_gap_num c h
  obtain ⟨x, hx⟩ : ∃ x : Int, x = (c.toNat : Int) := ⟨_, rfl⟩
  rw [← hx] at hn ⊢
  have h1 : (x == 32) = false := by rw [beq_eq_false_iff_ne]; exact hn.1
  have h2 : (x == 9) = false := by rw [beq_eq_false_iff_ne]; exact hn.2
  clear hx h hn
  go_enter Tryd.func19, Tryd.ntmps19
  go_wp2
  go_ret
  exact ⟨rfl, rfl⟩
set_option maxHeartbeats 1000000 in
theorem specWords_any (s : ByteArray) (w : World) (hs : s.size ≤ 1048576) :
    Calls Tryd.prog 9 #[.string s] w fun e w' => (∃ v, e = .returned v ∧ w'.ownsRow w.heap.size 9 1 v (wdsB s).length ((wdsB s).map .string)) ∧ Below w.heap.size w w' := by
  obtain ⟨i0, hi, hz0, hz1, hz2⟩ := info_parts infoStr
  have hown0 := World.ownsRow_lit (base := w.heap.size) (e := 9) (size := 1) w #[] 0 (Nat.le_refl _) (by unfold maxLen; omega) rfl
  have hbel0 : Below w.heap.size w (w.alloc (.cells #[] 9)) := (Below.refl _ _).alloc (Nat.le_refl _) _
  go_enter Tryd.func9, Tryd.ntmps9
  go_wp2
  go_loopw [3, 4, 5] (fun v i en wr => ∃ k : Nat, k ≤ s.size ∧ i = .int .i64 k ∧ Hid ((st s k).2 = [] ∨ ∀ h : k < s.size, isGap s[k]) ∧ wr.ownsRow w.heap.size 9 1 v (flush (st s k)).length ((bts (flush (st s k))).map .string) ∧ Below w.heap.size w wr) (fun _ i _ _ => s.size - (intOf i).toNat)
  case atStart => exact ⟨0, by omega, rfl, Lib.hid (.inl (by rw [st_zero])), by rw [st_zero]; exact hown0, hbel0⟩
  case round =>
    obtain ⟨k, hk, rfl, HC, hown, hbel⟩ := hrel
    by_cases hlt : (k : Int) < (s.size : Int)
    · by_cases hg : isGap s[k]
      · have HG := Lib.hid hg
        have HN := Lib.hid (st_gap s k (by omega) hg)
        clear hg
        go_wp2_with (go_at_call 19; refine (blank_yes _ _ HG.out).mono ?_; rintro e w' ⟨rfl, rfl⟩)
        go_roundw
        case rel => exact ⟨k + 1, by omega, by go_num, Lib.hid (.inl (by rw [HN.out])), by rw [HN.out]; exact hown, hbel⟩
        case measure => simp [intOf]; omega
      · have h2 : (st s k).2 = [] := by
          rcases HC.out with h | h
          · exact h
          · exact absurd (h (by omega)) hg
        have HG := Lib.hid hg
        have HK := Lib.hid (Cur.new (s := s) (k := k) (by omega) h2)
        have HF := Lib.hid h2
        clear hg h2
        go_wp2_with (go_at_call 19; refine (blank_no _ _ HG.out).mono ?_; rintro e w' ⟨rfl, rfl⟩)
        obtain ⟨wo, rfl⟩ : ∃ wo : World, wo = wr := ⟨_, rfl⟩
        go_loop [5] (fun en => ∃ e : Nat, k ≤ e ∧ e ≤ s.size ∧ en = .int .i64 e ∧ Hid (Cur s k e ∧ (st s e).1 = (st s k).1)) (fun en => s.size - (intOf en).toNat)
        case atStart => exact ⟨k, by omega, by omega, rfl, Lib.hid ⟨HK.out, rfl⟩⟩
        case round =>
          obtain ⟨e, hke, he, rfl, HI⟩ := hrel
          by_cases hle2 : (e : Int) < (s.size : Int)
          · by_cases hge : isGap s[e]
            · have hkne : e ≠ k := by rintro rfl; exact HG.out hge
              have HGE := Lib.hid hge
              clear hge
              have hne : (st s e).2 ≠ [] := by rw [Ne, HI.out.1.none_iff]; omega
              have HE := Lib.hid (flush_some hne)
              have HT := Lib.hid HI.out.1.text
              have HQ := Lib.hid HI.out.2
              have HZ := Lib.hid (flush_none HF.out)
              have hle := flush_le s k
              clear hne
              go_wp2_with (first | (go_at_call 19; refine (blank_yes _ _ HGE.out).mono ?_; rintro e1 w' ⟨rfl, rfl⟩) | (at_builtin; refine append_one rfl _ _ 28 rfl 9 i0 _ 16 Tryd.underlying28 hi hz0 hz1 hz2 rfl (by decide) rfl hown rfl (str_oneCell _) (by omega) hbel (Nat.le_refl _) ?_; intro v' w' hown' hbel' _ _))
              go_roundw
              case rel =>
                refine ⟨e, by omega, rfl, Lib.hid (.inr (fun _ => HGE.out)), ?_, hbel'⟩
                rw [HE.out, bts_snoc, List.map_append, List.length_append, HT.out, HQ.out, ← HZ.out]
                exact hown'
              case measure => simp [intOf]; omega
            · have HGE := Lib.hid hge
              have HX := Lib.hid (HI.out.1.next (by omega) hge)
              have HY := Lib.hid (st_not s e (by omega) hge)
              clear hge
              go_wp2_with (go_at_call 19; refine (blank_no _ _ HGE.out).mono ?_; rintro e1 w' ⟨rfl, rfl⟩)
              go_round
              case rel => exact ⟨e + 1, by omega, by omega, by go_num, Lib.hid ⟨HX.out, by rw [HY.out]; exact HI.out.2⟩⟩
              case measure => simp [intOf]; omega
          · obtain rfl : e = s.size := by omega
            have hne : (st s s.size).2 ≠ [] := by rw [Ne, HI.out.1.none_iff]; omega
            have HE := Lib.hid (flush_some hne)
            have HT := Lib.hid HI.out.1.text
            have HQ := Lib.hid HI.out.2
            have HZ := Lib.hid (flush_none HF.out)
            have hle := flush_le s k
            clear hne
            go_wp2_with (at_builtin; refine append_one rfl _ _ 28 rfl 9 i0 _ 16 Tryd.underlying28 hi hz0 hz1 hz2 rfl (by decide) rfl hown rfl (str_oneCell _) (by omega) hbel (Nat.le_refl _) ?_; intro v' w' hown' hbel' _ _)
            go_roundw
            case rel =>
              refine ⟨s.size, by omega, rfl, Lib.hid (.inr (fun h => by omega)), ?_, hbel'⟩
              rw [HE.out, bts_snoc, List.map_append, List.length_append, HT.out, HQ.out, ← HZ.out]
              exact hown'
            case measure => simp [intOf]; omega
    · obtain rfl : k = s.size := by omega
      go_wp2
      go_ret
      exact ⟨⟨_, rfl, by unfold wdsB; rw [bts_len]; exact hown⟩, hbel⟩
end Go.Proofs.YtjcopkjapnieoaaDoor.Word
