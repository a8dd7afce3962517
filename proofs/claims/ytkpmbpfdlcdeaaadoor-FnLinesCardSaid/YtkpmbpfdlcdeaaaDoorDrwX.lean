/-
  The walks of the draws, told as functions, second part: a new cursor, a text out of a list, a text put together.
-/
import Derived.Test.YtkpmbpfdlcdeaaaDoorDrwW
namespace Go.Proofs.YtkpmbpfdlcdeaaaDoor.Drw
open Go.RowKit Go.Proofs.YtkpmbpfdlcdeaaaDoor.Kit
set_option linter.unusedVariables false

set_option maxHeartbeats 400000 in
theorem new_x (w : World) (B : Nat) (a : Option Addr) (len cap : Nat) (c : Nat → Int) (hcode : CodeIs B w a len cap c) (hB : B ≤ w.heap.size) :
    Calls Tryd.prog 24 #[.slice a len cap] w fun e w' => e = .returned (.pointer (some ⟨w.heap.size, 0, none⟩)) ∧ Drw B w' w.heap.size 47 a len cap c (newF c len) ∧ Below w.heap.size w w' := by
  have hlen := hcode.le
  unfold maxLen at hlen
  have HC := Lib.hid hcode
  clear hcode
  go_enter Tryd.func24, Tryd.ntmps24
  go_wp2
  go_loop [3, 4] (fun m i => ∃ (k : Nat) (x : Int), k ≤ len ∧ k ≤ 4000 ∧ i = .int .i64 k ∧ m = .int .i64 x ∧ Hid (x = hashF c len k)) (fun _ i => len - (intOf i).toNat)
  case atStart => exact ⟨0, _, by omega, by omega, rfl, rfl, Lib.hid rfl⟩
  case round =>
    obtain ⟨k, x, hk, hk4, rfl, rfl, HX⟩ := hrel
    have fin : ∀ (hf : k = min len 4000), Drw B (w.alloc (.cells #[.slice a len cap, .int .i64 0, .int .i64 x] 47)) w.heap.size 47 a len cap c (newF c len) := fun hf =>
      ⟨Nat.zero_le _, by rw [HX.out, hf]; exact heap_alloc_new w _, HC.out.below ((Below.refl _ _).alloc hB _), hB⟩
    have FIN := Lib.hid fin
    clear fin
    by_cases hlt : (k : Int) < (len : Int)
    · by_cases h4 : (k : Int) < 4000
      · obtain ⟨b, off, hae, hbB, hya, hyb, hcy⟩ := HC.out.cell k (by omega)
        subst hae
        go_wp2
        go_round
        case rel => exact ⟨k + 1, _, by omega, by omega, by go_num, rfl, Lib.hid (by rw [HX.out]; rfl)⟩
        case measure => simp [intOf]; omega
      · go_wp2
        go_ret
        exact ⟨rfl, FIN.out (by omega), (Below.refl _ _).alloc (Nat.le_refl _) _⟩
    · go_wp2
      go_ret
      exact ⟨rfl, FIN.out (by omega), (Below.refl _ _).alloc (Nat.le_refl _) _⟩

set_option maxHeartbeats 400000 in
theorem pick_x (w : World) (cb B : Nat) (a : Option Addr) (len cap : Nat) (c : Nat → Int) (s : Nat × Int) (hd : Drw B w cb 47 a len cap c s) (g n : Nat) (L : List ByteArray) (hL : StrsIs w g L) (hn : n = L.length) (hg : g ≠ cb) (h1 : 1 ≤ n) (h2 : n ≤ 100) :
    Calls Tryd.prog 28 #[.pointer (some ⟨cb, 0, none⟩), .slice (some ⟨g, 0, none⟩) n n] w fun e w' => e = .returned (.string (pickF L c len s).1) ∧ Wnt B w w' cb 47 a len cap c (pickF L c len s).2 := by
  have hbd := belowF_bd c len n s (by omega)
  have hb := below_x w cb B a len cap c s hd n (by omega) (by omega)
  have hp : (pickF L c len s) = (L.getD (belowF c len n s).1.toNat ByteArray.empty, (belowF c len n s).2) := by rw [hn]; rfl
  obtain ⟨x, hx⟩ : ∃ x, x = (belowF c len n s).1 := ⟨_, rfl⟩
  rw [← hx] at hb hbd hp
  obtain ⟨hx0, hx1⟩ := hbd
  obtain ⟨k, rfl⟩ := Int.eq_ofNat_of_zero_le hx0
  have hk : k < L.length := by omega
  have hcz := hL k hk
  have e : L.getD ((k : Int)).toNat ByteArray.empty = L[k] := by
    rw [show ((k : Int)).toNat = k by omega, List.getD_eq_getElem?_getD, List.getElem?_eq_getElem hk]; rfl
  rw [e] at hp
  obtain ⟨z, hz⟩ : ∃ z, z = L[k] := ⟨_, rfl⟩
  rw [← hz] at hcz hp
  have HP := Lib.hid hp
  have HB := Lib.hid hb
  clear hp hb hx hL hn e hz
  go_enter Tryd.func28, Tryd.ntmps28
  go_wp2_with fail
  refine HB.out.mono ?_
  rintro e w1 ⟨rfl, hw⟩
  have hc1 : w1.cell? ⟨g, k, none⟩ = some (.string z) := hw.grown.cell hcz (by simpa using hg)
  clear hcz
  go_wp2_with fail
  go_ret
  rw [HP.out]
  exact ⟨rfl, hw⟩

def linesL : List ByteArray := [⟨#[97]⟩, ⟨#[10]⟩, ⟨#[98, 99]⟩, ⟨#[]⟩, ⟨#[10, 10]⟩]
theorem linesL_size : ∀ x ∈ linesL, x.size ≤ 2 := by
  intro x hx
  simp only [linesL, List.mem_cons, List.mem_nil_iff, or_false] at hx
  rcases hx with rfl | rfl | rfl | rfl | rfl <;> decide
set_option maxHeartbeats 400000 in
theorem lines_x (w : World) (B : Nat) (a : Option Addr) (len cap : Nat) (c : Nat → Int) (hcode : CodeIs B w a len cap c) (hB : B ≤ w.heap.size) :
    Calls Tryd.prog 14 #[.slice a len cap] w fun e w' => e = .returned (.string (drawF linesL c len)) ∧ Below w.heap.size w w' := by
  have hbd := belowF_bd c len 7 (newF c len) (by omega)
  obtain ⟨N, hN⟩ : ∃ N, N = (belowF c len 7 (newF c len)).1 := ⟨_, rfl⟩
  have hbl := fun w1 hd => below_x w1 w.heap.size B a len cap c (newF c len) hd 7 (by omega) (by omega)
  rw [← hN] at hbl hbd
  obtain ⟨N, rfl⟩ := Int.eq_ofNat_of_zero_le hbd.1
  obtain ⟨s0, hs0⟩ : ∃ s0, s0 = (belowF c len 7 (newF c len)).2 := ⟨_, rfl⟩
  rw [← hs0] at hbl
  have hD : drawF linesL c len = (textF linesL c len s0 N).1 := by
    unfold drawF
    rw [← hN, ← hs0, show ((N : Int)).toNat = N by omega]
  have hN7 : (N : Int) < 7 := hbd.2
  have HD := Lib.hid hD
  have HB := Lib.hid hbl
  clear hD hbl hN hs0 hbd
  go_enter Tryd.func14, Tryd.ntmps14
  go_wp2_with fail
  refine (new_x _ B a len cap c hcode hB).mono ?_
  rintro e w1 ⟨rfl, hd, hb1⟩
  go_wp2_with fail
  refine (HB.out _ hd).mono ?_
  rintro e w2 ⟨rfl, hw2⟩
  have hW2 := hb1.trans ((hw2.below (Nat.le_trans hB hb1.size)).mono (Nat.le_refl _) |> fun h => (Below.refl w.heap.size w1).grown hw2.grown hb1.size (fun k e => by cases e; exact Nat.le_refl _))
  go_wp2
  go_loopw [4, 6] (fun t i wr => ∃ j : Nat, j ≤ N ∧ i = .int .i64 j ∧ t = .string (textF linesL c len s0 j).1 ∧ Drw B wr w.heap.size 47 a len cap c (textF linesL c len s0 j).2 ∧ Below w.heap.size w wr) (fun _ i _ => N - (intOf i).toNat)
  case atStart => exact ⟨0, by omega, rfl, rfl, hw2.dr, hW2⟩
  case round =>
    obtain ⟨j, hj, rfl, rfl, hdr, hbr⟩ := hrel
    by_cases hlt : (j : Int) < (N : Int)
    · have hsz := textF_size linesL c len s0 linesL_size j
      have hsz2 := pickF_size linesL c len (textF linesL c len s0 j).2 linesL_size
      have hst : (textF linesL c len s0 (j + 1)) = ((textF linesL c len s0 j).1 ++ (pickF linesL c len (textF linesL c len s0 j).2).1, (pickF linesL c len (textF linesL c len s0 j).2).2) := rfl
      have HS := Lib.hid hst
      have hadd : ∀ wx : World, (Op.stringOp .add (textF linesL c len s0 j).1 (pickF linesL c len (textF linesL c len s0 j).2).1).run Tryd.prog wx = .ok (.string ((textF linesL c len s0 j).1 ++ (pickF linesL c len (textF linesL c len s0 j).2).1)) wx := fun wx => run_string_add_sum wx _ _ (by omega)
      have HA := Lib.hid hadd
      clear hst hadd hsz hsz2
      obtain ⟨T, hT⟩ : ∃ T, T = textF linesL c len s0 j := ⟨_, rfl⟩
      rw [← hT] at hdr HS HA ⊢
      clear hT
      have hlt2 := hdr.lt
      go_wp2_with fail
      refine (pick_x _ w.heap.size B a len cap c T.2 (hdr.refl.alloc _).dr wr.heap.size 5 linesL (strsIs_new wr linesL 9) rfl (by omega) (by omega) (by omega)).mono ?_
      rintro e w4 ⟨rfl, hw4⟩
      have hadd := HA.out
      have hb4 : Below w.heap.size w w4 := (hbr.alloc hbr.size _).grown hw4.grown (by have := hbr.size; simp; omega) (fun k e => by cases e; exact Nat.le_refl _)
      go_wp2_with fail
      go_roundw
      case rel => exact ⟨j + 1, by omega, by go_num, by rw [HS.out], by rw [HS.out]; exact hw4.dr, hb4⟩
      case measure => simp [intOf]; omega
    · obtain rfl : j = N := by omega
      go_wp2
      go_ret
      rw [HD.out]
      exact ⟨rfl, hbr⟩

def wordsL : List ByteArray := [⟨#[97]⟩, ⟨#[32]⟩, ⟨#[98, 99]⟩, ⟨#[9]⟩, ⟨#[]⟩, ⟨#[10]⟩]
theorem wordsL_size : ∀ x ∈ wordsL, x.size ≤ 2 := by
  intro x hx
  simp only [wordsL, List.mem_cons, List.mem_nil_iff, or_false] at hx
  rcases hx with rfl | rfl | rfl | rfl | rfl | rfl <;> decide
set_option maxHeartbeats 400000 in
theorem words_x (w : World) (B : Nat) (a : Option Addr) (len cap : Nat) (c : Nat → Int) (hcode : CodeIs B w a len cap c) (hB : B ≤ w.heap.size) :
    Calls Tryd.prog 17 #[.slice a len cap] w fun e w' => e = .returned (.string (drawF wordsL c len)) ∧ Below w.heap.size w w' := by
  have hbd := belowF_bd c len 7 (newF c len) (by omega)
  obtain ⟨N, hN⟩ : ∃ N, N = (belowF c len 7 (newF c len)).1 := ⟨_, rfl⟩
  have hbl := fun w1 hd => below_x w1 w.heap.size B a len cap c (newF c len) hd 7 (by omega) (by omega)
  rw [← hN] at hbl hbd
  obtain ⟨N, rfl⟩ := Int.eq_ofNat_of_zero_le hbd.1
  obtain ⟨s0, hs0⟩ : ∃ s0, s0 = (belowF c len 7 (newF c len)).2 := ⟨_, rfl⟩
  rw [← hs0] at hbl
  have hD : drawF wordsL c len = (textF wordsL c len s0 N).1 := by
    unfold drawF
    rw [← hN, ← hs0, show ((N : Int)).toNat = N by omega]
  have hN7 : (N : Int) < 7 := hbd.2
  have HD := Lib.hid hD
  have HB := Lib.hid hbl
  clear hD hbl hN hs0 hbd
  go_enter Tryd.func17, Tryd.ntmps17
  go_wp2_with fail
  refine (new_x _ B a len cap c hcode hB).mono ?_
  rintro e w1 ⟨rfl, hd, hb1⟩
  go_wp2_with fail
  refine (HB.out _ hd).mono ?_
  rintro e w2 ⟨rfl, hw2⟩
  have hW2 := hb1.trans ((hw2.below (Nat.le_trans hB hb1.size)).mono (Nat.le_refl _) |> fun h => (Below.refl w.heap.size w1).grown hw2.grown hb1.size (fun k e => by cases e; exact Nat.le_refl _))
  go_wp2
  go_loopw [4, 6] (fun t i wr => ∃ j : Nat, j ≤ N ∧ i = .int .i64 j ∧ t = .string (textF wordsL c len s0 j).1 ∧ Drw B wr w.heap.size 47 a len cap c (textF wordsL c len s0 j).2 ∧ Below w.heap.size w wr) (fun _ i _ => N - (intOf i).toNat)
  case atStart => exact ⟨0, by omega, rfl, rfl, hw2.dr, hW2⟩
  case round =>
    obtain ⟨j, hj, rfl, rfl, hdr, hbr⟩ := hrel
    by_cases hlt : (j : Int) < (N : Int)
    · have hsz := textF_size wordsL c len s0 wordsL_size j
      have hsz2 := pickF_size wordsL c len (textF wordsL c len s0 j).2 wordsL_size
      have hst : (textF wordsL c len s0 (j + 1)) = ((textF wordsL c len s0 j).1 ++ (pickF wordsL c len (textF wordsL c len s0 j).2).1, (pickF wordsL c len (textF wordsL c len s0 j).2).2) := rfl
      have HS := Lib.hid hst
      have hadd : ∀ wx : World, (Op.stringOp .add (textF wordsL c len s0 j).1 (pickF wordsL c len (textF wordsL c len s0 j).2).1).run Tryd.prog wx = .ok (.string ((textF wordsL c len s0 j).1 ++ (pickF wordsL c len (textF wordsL c len s0 j).2).1)) wx := fun wx => run_string_add_sum wx _ _ (by omega)
      have HA := Lib.hid hadd
      clear hst hadd hsz hsz2
      obtain ⟨T, hT⟩ : ∃ T, T = textF wordsL c len s0 j := ⟨_, rfl⟩
      rw [← hT] at hdr HS HA ⊢
      clear hT
      have hlt2 := hdr.lt
      go_wp2_with fail
      refine (pick_x _ w.heap.size B a len cap c T.2 (hdr.refl.alloc _).dr wr.heap.size 6 wordsL (strsIs_new wr wordsL 9) rfl (by omega) (by omega) (by omega)).mono ?_
      rintro e w4 ⟨rfl, hw4⟩
      have hadd := HA.out
      have hb4 : Below w.heap.size w w4 := (hbr.alloc hbr.size _).grown hw4.grown (by have := hbr.size; simp; omega) (fun k e => by cases e; exact Nat.le_refl _)
      go_wp2_with fail
      go_roundw
      case rel => exact ⟨j + 1, by omega, by go_num, by rw [HS.out], by rw [HS.out]; exact hw4.dr, hb4⟩
      case measure => simp [intOf]; omega
    · obtain rfl : j = N := by omega
      go_wp2
      go_ret
      rw [HD.out]
      exact ⟨rfl, hbr⟩
end Go.Proofs.YtkpmbpfdlcdeaaaDoor.Drw
