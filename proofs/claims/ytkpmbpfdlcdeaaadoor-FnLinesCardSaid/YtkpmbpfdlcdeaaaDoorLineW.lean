/-
  The walk of the specification's Lines: a row of the call's own with the lines.
-/
import Derived.Test.YtkpmbpfdlcdeaaaDoorProg
import Derived.Test.YtkpmbpfdlcdeaaaDoorLineA
import Derived.WalkLawsBesides
namespace Go.Proofs.YtkpmbpfdlcdeaaaDoor.Line
open Go.RowKit Go.Proofs.YtkpmbpfdlcdeaaaDoor.Kit
set_option linter.unusedVariables false
theorem infoStr : (Tryd.prog.info? 9).map (fun i => (i.zero, i.size, i.bytes)) = some (some (.string ByteArray.empty), 1, 16) := by kernel_rfl

set_option maxHeartbeats 400000 in
theorem specLines_any (s : ByteArray) (w : World) (hs : s.size ≤ 1048576) :
    Calls Tryd.prog 19 #[.string s] w fun e w' => (∃ v, e = .returned v ∧ w'.ownsRow w.heap.size 9 1 v (lnsB s).length ((lnsB s).map .string)) ∧ Below w.heap.size w w' := by
  obtain ⟨i0, hi, hz0, hz1, hz2⟩ := info_parts infoStr
  have hap := fun (wx : World) => World.ownsRow_lit (base := w.heap.size) (e := 9) (size := 1) w #[] 0 (Nat.le_refl _) (by unfold maxLen; omega) rfl
  have hown0 := World.ownsRow_lit (base := w.heap.size) (e := 9) (size := 1) w #[] 0 (Nat.le_refl _) (by unfold maxLen; omega) rfl
  have hbel0 : Below w.heap.size w (w.alloc (.cells #[] 9)) := (Below.refl _ _).alloc (Nat.le_refl _) _
  clear hap
  by_cases h0 : s.size = 0
  · have he := is_empty s h0
    have hl : lnsB s = [] := by unfold lnsB; rw [if_pos h0]
    have HL := Lib.hid hl
    clear hl
    go_enter Tryd.func19, Tryd.ntmps19
    go_wp2
    go_ret
    rw [HL.out]
    exact ⟨⟨_, rfl, hown0⟩, hbel0⟩
  · have he := ne_empty s h0
    have H0 := Lib.hid h0
    clear h0
    go_enter Tryd.func19, Tryd.ntmps19
    go_wp2
    go_loopw [3, 4, 5] (fun v fr i wr => ∃ k f : Nat, k ≤ s.size ∧ f ≤ k ∧ i = .int .i64 k ∧ fr = .int .i64 f ∧ Hid ((st s k).2 = (s.data.toList.drop f).take (k - f)) ∧ wr.ownsRow w.heap.size 9 1 v (st s k).1.length ((bts (st s k).1).map .string) ∧ Below w.heap.size w wr) (fun _ _ i _ => s.size - (intOf i).toNat)
    case atStart => exact ⟨0, 0, by omega, by omega, rfl, rfl, Lib.hid (by simp [st]), by rw [st_zero]; exact hown0, hbel0⟩
    case round =>
      obtain ⟨k, f, hk, hf, rfl, rfl, HC, hown, hbel⟩ := hrel
      have hle := st_le s k
      by_cases hlt : (k : Int) < (s.size : Int)
      · by_cases hc : s[k] = 10
        · have hb := isNl _ hc
          have HN := Lib.hid (cur_new s k (by omega) hc)
          clear hc
          go_wp2_with (at_builtin; refine append_one rfl _ _ 28 rfl 9 i0 _ 16 Tryd.underlying28 hi hz0 hz1 hz2 rfl (by decide) rfl hown rfl (str_oneCell _) (by omega) hbel (Nat.le_refl _) ?_; intro v' w' hown' hbel' _ _)
          go_roundw
          case rel =>
            refine ⟨k + 1, k + 1, by omega, by omega, by go_num, by go_num, Lib.hid HN.out.1, ?_, hbel'⟩
            rw [HN.out.2, bts_snoc, List.map_append, cur_hit s k f hf (by omega) HC.out, List.length_append]
            exact hown'
          case measure => simp [intOf]; omega
        · have hb := notNl _ hc
          have HN := Lib.hid (cur_step s k f hf (by omega) hc HC.out)
          clear hc
          go_wp2
          go_roundw
          case rel => exact ⟨k + 1, f, by omega, by omega, by go_num, rfl, Lib.hid HN.out.1, by rw [HN.out.2]; exact hown, hbel⟩
          case measure => simp [intOf]; omega
      · obtain rfl : k = s.size := by omega
        go_wp2_with (at_builtin; refine append_one rfl _ _ 28 rfl 9 i0 _ 16 Tryd.underlying28 hi hz0 hz1 hz2 rfl (by decide) rfl hown rfl (str_oneCell _) (by omega) hbel (Nat.le_refl _) ?_; intro v' w' hown' hbel' _ _)
        go_ret
        refine ⟨⟨_, rfl, ?_⟩, hbel'⟩
        rw [← st_end s H0.out, bts_snoc, List.map_append, List.length_append, cur_last s f HC.out, bts_len]
        exact hown'
end Go.Proofs.YtkpmbpfdlcdeaaaDoor.Line
