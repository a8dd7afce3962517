/-
  The walks of the exact laws' marks: a mark's text, a row marked, a row held against its marks, two rows held against each other.
-/
import Derived.Test.YtkpmbpfdlcdeaaaDoorProg
import Derived.Test.YtkpmbpfdlcdeaaaDoorMarkA
import Derived.WalkLawsBesides
import Derived.Deep.QuietTactic
import Derived.BigQuiet
import Derived.Deep.RegionHeld3
namespace Go.Proofs.YtkpmbpfdlcdeaaaDoor.Mark
open Go.RowKit Go.Proofs.YtkpmbpfdlcdeaaaDoor.Kit Go.Proofs.YtkpmbpfdlcdeaaaDoor.Dec
set_option linter.unusedVariables false

theorem dgt_cell (r : Int) (h0 : 0 ≤ r) (h1 : r < 10) : ((dgt r).toNat : Int) = 48 + r := by
  unfold dgt
  rw [UInt8.toNat_ofNat']; omega
theorem one_cat (c : UInt8) (acc : List UInt8) : (⟨#[c]⟩ : ByteArray) ++ (⟨acc.toArray⟩ : ByteArray) = ⟨(c :: acc).toArray⟩ := by
  apply ByteArray.ext
  rw [ByteArray.data_append]
  apply Array.ext'
  rw [Array.toList_append]
  simp
theorem one_byte (w : World) (r : Int) (h0 : 0 ≤ r) (h1 : r < 10) :
    (convert 22 9 (.slice (some ⟨w.heap.size, 0, none⟩) 1 1)).run Tryd.prog (w.alloc (.cells #[.int .u8 (48 + r)] 5)) = .ok (.string ⟨#[dgt r]⟩) (w.alloc (.cells #[.int .u8 (48 + r)] 5)) := by
  refine run_convert_bytes_back (P := Tryd.prog) (w.alloc (.cells #[.int .u8 (48 + r)] 5)) 22 9 5 ⟨w.heap.size, 0, none⟩ 1 [dgt r] Tryd.underlying22 Tryd.underlying5 Tryd.underlying9 ?_
  intro j hj
  obtain rfl : j = 0 := by simpa using hj
  have hb : (w.alloc (.cells #[.int .u8 (48 + r)] 5)).heap[w.heap.size]? = some (.cells #[.int .u8 (48 + r)] 5 (0, 0)) := heap_alloc_new w _
  have hc := cell_of_one hb
  rw [show (⟨w.heap.size, 0, none⟩ : Addr).add 0 = ⟨w.heap.size, 0, none⟩ from rfl, hc]
  simp only [List.getElem_cons_zero]
  rw [dgt_cell r h0 h1]

set_option maxHeartbeats 400000 in
theorem markText_any (n : Int) (w : World) (h0 : 0 < n) (h1 : n ≤ 9223372036854775807) :
    Calls Tryd.prog 35 #[.int .i64 n] w fun e w' => e = .returned (.string (mkt n.natAbs)) ∧ w.grownBy w' none := by
  have hL := Lib.hid (dd_i64 n (by omega) (by omega))
  go_enter Tryd.func35, Tryd.ntmps35
  go_wp2
  go_loopw [0, 3] (fun m o wr => ∃ (u : Int) (acc : List UInt8), Hid (dd n.natAbs = dd u.natAbs ++ acc) ∧ 0 ≤ u ∧ u ≤ n ∧ m = .int .i64 u ∧ o = .string ⟨acc.toArray⟩ ∧ w.grownBy wr none) (fun m _ _ => (intOf m).natAbs)
  case atStart => exact ⟨n, [], Lib.hid (by simp), by omega, by omega, rfl, rfl, grownRefl _ _⟩
  case round =>
    obtain ⟨u, acc, HD, hu0, hun, rfl, rfl, hg⟩ := hrel
    have hadd2 : ∀ (c : UInt8) (wx : World), (Op.stringOp .add ⟨#[c]⟩ ⟨acc.toArray⟩).run Tryd.prog wx = .ok (.string ⟨(c :: acc).toArray⟩) wx := fun c wx => by
      rw [run_string_add_sum, one_cat]
      have h1 := size_mk [c]
      have h2 := size_mk acc
      have h3 : (dd n.natAbs).length = (dd u.natAbs).length + acc.length := by rw [HD.out, List.length_append]
      have h4 := hL.out
      simp at h1
      omega
    by_cases hz : u ≤ 0
    · obtain rfl : u = 0 := by omega
      have hacc : dd n.natAbs = acc := by rw [HD.out]; simp [dd]
      have HA := Lib.hid hacc
      have hadd := hadd2 109
      clear hacc hadd2
      go_wp2
      go_ret
      exact ⟨congrArg (fun l : List UInt8 => Ending.returned (.string ⟨l.toArray⟩)) (by rw [HA.out]), hg⟩
    · have hr := Int.emod_lt_of_pos u (show (0 : Int) < 10 by omega)
      have hr0 := Int.emod_nonneg u (show (10 : Int) ≠ 0 by omega)
      have hcv := one_byte wr (u % 10) hr0 hr
      have hadd := hadd2 (dgt (u % 10))
      clear hadd2
      go_wp2
      go_roundw
      case rel => exact ⟨u / 10, dgt (u % 10) :: acc, Lib.hid (dd_round' _ u acc _ _ (by omega) (by omega) (by omega) HD.out), by omega, by omega, rfl, rfl, grownTrans hg (World.grownBy_alloc _ _ _)⟩
      case measure => simp [intOf]; omega

set_option maxHeartbeats 400000 in
theorem mark_any (k n : Nat) (xs : List Value) (B : Nat) (ad : Option Addr) (cap : Nat) (w : World) (hown : w.ownsRow B 9 1 (.slice ad n cap) n xs) (hk : 1 ≤ k) (hb : k + n ≤ 1000000000) :
    Calls Tryd.prog 22 #[.slice ad n cap, .int .i64 k] w fun e w' => e = .returned (.int .i64 ((k + n : Nat) : Int)) ∧ w'.ownsRow B 9 1 (.slice ad n cap) n ((marks k n).map .string) ∧ w.grownBy w' (Value.slice ad n cap).ownBlock := by
  have hxl : xs.length = n := by have := hown.1; simpa using this
  have HX := Lib.hid hxl
  clear hxl
  go_enter Tryd.func22, Tryd.ntmps22
  go_wp2
  go_loopw [1, 5] (fun m i wr => ∃ j : Nat, j ≤ n ∧ i = .int .i64 j ∧ m = .int .i64 ((k + j : Nat) : Int) ∧ wr.ownsRow B 9 1 (.slice ad n cap) n ((marks k j).map Value.string ++ xs.drop j) ∧ w.grownBy wr (Value.slice ad n cap).ownBlock) (fun _ i _ => n - (intOf i).toNat)
  case atStart => exact ⟨0, by omega, rfl, rfl, by simpa [marks] using hown, grownRefl _ _⟩
  case round =>
    obtain ⟨j, hj, rfl, rfl, hrow, hg⟩ := hrel
    by_cases hlt : (j : Int) < (n : Int)
    · have hjn : j < n := by omega
      rcases hrow.2 with ⟨_, h0⟩ | ⟨g, cap', cur, hv, hr1, hr2, hr3, hr4, hr5, hr6⟩
      · omega
      · simp only [Value.slice.injEq, true_and] at hv
        obtain ⟨rfl, rfl⟩ := hv
        have hlen : ((marks k j).map Value.string ++ xs.drop j).length = n := by have := hrow.1; simpa using this
        have hcell : ∃ u, wr.cell? ⟨g, j, none⟩ = some u := by
          rw [hrow.cellAt j (by omega), List.getElem?_eq_getElem (by omega)]; exact ⟨_, rfl⟩
        obtain ⟨u, hcell⟩ := hcell
        have hfr := hrow.frozenAt j
        have hglt := lt_of_block hr2
        have HR := Lib.hid hrow
        clear hrow hr1 hr2 hr3 hr4 hr5 hr6 hlen
        go_wp2_with fail
        refine (markText_any ((k + j : Nat) : Int) _ (by omega) (by omega)).mono ?_
        rintro e w2 ⟨rfl, hg2⟩
        have hc2 : w2.cell? ⟨g, j, none⟩ = some u := hg2.cell hcell (by simp)
        have hf2 : w2.frozen? ⟨g, j, none⟩ = false := (World.frozen?_of_block (w := wr) (hg2.block g hglt (by simp))).trans hfr
        have hst := (HR.out.kept hg2 (.inr (by simp [Value.ownBlock]))).stored j (.string (mkt (k + j)))
        rw [marks_set k n j xs HX.out hjn] at hst
        have HS := Lib.hid hst
        have HG := Lib.hid hg2
        clear hst hg2 hcell hfr
        rw [show ((k + j : Nat) : Int).natAbs = k + j by omega]
        go_wp2_with fail
        go_roundw
        case rel => exact ⟨j + 1, by omega, by go_num, by go_num, HS.out.1, grownTrans (grownTrans hg (grown_none HG.out _)) HS.out.2⟩
        case measure => simp [intOf]; omega
    · obtain rfl : j = n := by omega
      rw [List.drop_of_length_le (by rw [HX.out]; exact Nat.le_refl _), List.append_nil] at hrow
      go_wp2
      go_ret
      exact ⟨rfl, hrow, hg⟩

set_option maxHeartbeats 400000 in
theorem eq_any (l : List ByteArray) (ad1 ad2 : Option Addr) (c1 c2 : Nat) (w : World) (h1 : SRow w ad1 l) (h2 : SRow w ad2 l) (hl : l.length ≤ maxLen) :
    Calls Tryd.prog 21 #[.slice ad1 l.length c1, .slice ad2 l.length c2] w fun e w' => e = .returned (.bool true) ∧ w.grownBy w' none := by
  unfold maxLen at hl
  obtain ⟨n, hn⟩ : ∃ n, n = l.length := ⟨_, rfl⟩
  rw [← hn] at hl ⊢
  have HN := Lib.hid hn
  have H1 := Lib.hid h1
  have H2 := Lib.hid h2
  clear hn h1 h2
  go_enter Tryd.func21, Tryd.ntmps21
  go_wp2
  go_loopw [5] (fun i wr => ∃ j : Nat, j ≤ n ∧ i = .int .i64 j ∧ w.grownBy wr none) (fun i _ => n - (intOf i).toNat)
  case atStart => exact ⟨0, by omega, rfl, grownRefl _ _⟩
  case round =>
    obtain ⟨j, hj, rfl, hg⟩ := hrel
    by_cases hlt : (j : Int) < (n : Int)
    · have hjn : j < l.length := by have := HN.out; omega
      obtain ⟨g1, e1, hlt1, hc1⟩ := H1.out j hjn
      obtain ⟨g2, e2, hlt2, hc2⟩ := H2.out j hjn
      obtain ⟨s, hs⟩ : ∃ s, s = l[j] := ⟨_, rfl⟩
      rw [← hs] at hc1 hc2
      subst e1 e2
      have hd1 : wr.cell? ⟨g1, j, none⟩ = some (.string s) := hg.cell hc1 (by simp)
      have hd2 : wr.cell? ⟨g2, j, none⟩ = some (.string s) := hg.cell hc2 (by simp)
      clear hc1 hc2 hs
      go_wp2
      go_quiet (fail)
      go_wp2
      go_roundw
      case rel => exact ⟨j + 1, by omega, by go_num, grownTrans hg ⟨rfl, rfl, rfl, Nat.le_refl _, fun _ _ _ => rfl⟩⟩
      case measure => simp [intOf]; omega
    · go_wp2
      go_ret
      exact ⟨rfl, hg⟩

set_option maxHeartbeats 400000 in
theorem held_any (k n : Nat) (ad : Option Addr) (cap : Nat) (w : World) (h1 : SRow w ad (marks k n)) (hk : 1 ≤ k) (hb : k + n ≤ 1000000000) :
    Calls Tryd.prog 23 #[.slice ad n cap, .int .i64 k] w fun e w' => e = .returned (.int .i64 ((k + n : Nat) : Int)) ∧ w.grownBy w' none := by
  have H1 := Lib.hid h1
  clear h1
  go_enter Tryd.func23, Tryd.ntmps23
  go_wp2
  go_loopw [1, 5] (fun m i wr => ∃ j : Nat, j ≤ n ∧ i = .int .i64 j ∧ m = .int .i64 ((k + j : Nat) : Int) ∧ w.grownBy wr none) (fun _ i _ => n - (intOf i).toNat)
  case atStart => exact ⟨0, by omega, rfl, rfl, grownRefl _ _⟩
  case round =>
    obtain ⟨j, hj, rfl, rfl, hg⟩ := hrel
    by_cases hlt : (j : Int) < (n : Int)
    · have hjn : j < (marks k n).length := by rw [marks_len]; omega
      obtain ⟨g1, e1, hlt1, hc1⟩ := H1.out j hjn
      rw [marks_get] at hc1
      subst e1
      have hd1 : wr.cell? ⟨g1, j, none⟩ = some (.string (mkt (k + j))) := hg.cell hc1 (by simp)
      clear hc1
      have e : ((k : Int) + (j : Int)).natAbs = k + j := by omega
      have HE := Lib.hid e
      clear e
      go_wp2
      go_region_held3 (fun w' => w'.cell? ⟨g1, j, none⟩ = some (.string (mkt (k + j)))) (first | go_keep | exact hg2.cell ‹_› (by simp))
        (first | (go_at_call 35; refine (markText_any _ _ (by omega) (by omega)).mono ?_; rintro e w2 ⟨rfl, hg2⟩; rw [HE.out]))
      go_wp2
      go_roundw
      case rel => exact ⟨j + 1, by omega, by go_num, by go_num, grownTrans hg (grownTrans (w1 := wr.drew) ⟨rfl, rfl, rfl, Nat.le_refl _, fun _ _ _ => rfl⟩ hg2)⟩
      case measure => simp [intOf]; omega
    · obtain rfl : j = n := by omega
      go_wp2
      go_ret
      exact ⟨rfl, hg⟩
end Go.Proofs.YtkpmbpfdlcdeaaaDoor.Mark
