/-
  The laws' marks on a row of links without flies: written, and read again.
-/
import Derived.Test.YtecfomaapomncaaGtX
namespace Go.Proofs.Ytecfomaapomncaa.Gat
open Go.RowKit
open Lnk (bOne bAfter IOwn IIs below_keep below_drew')
set_option linter.unusedVariables false

/-- a link without flies that was marked from q on -/
def mrk1 (q : Int) : Lr := ⟨q % 3 == 0, q + 1, q + 2, .slice none 0 0⟩
def mrkL (q : Int) (n : Nat) : List Lr := (List.range n).map fun (k : Nat) => mrk1 (q + 3 * (k : Int))
theorem mrkL_len (q : Int) (n : Nat) : (mrkL q n).length = n := by simp [mrkL]
theorem mrkL_snoc (q : Int) (n : Nat) : mrkL q (n + 1) = mrkL q n ++ [mrk1 (q + 3 * (n : Int))] := by simp [mrkL, List.range_succ]
theorem mrkL_mid_len (q : Int) (l : List Lr) (j : Nat) (h : j ≤ l.length) : (mrkL q j ++ l.drop j).length = l.length := by simp [mrkL_len]; omega
theorem mrkL_step (q : Int) (l : List Lr) (j : Nat) (h : j < l.length) : (mrkL q j ++ l.drop j).set j (mrk1 (q + 3 * (j : Int))) = mrkL q (j + 1) ++ l.drop (j + 1) := by
  rw [List.set_append_right _ _ (by simp [mrkL_len]), mrkL_len, Nat.sub_self, List.drop_eq_getElem_cons h, List.set_cons_zero, mrkL_snoc, List.append_assoc]
  rfl
theorem mrkL_at (q : Int) (l : List Lr) (j : Nat) (h : j < l.length) (h' : j < (mrkL q j ++ l.drop j).length) : (mrkL q j ++ l.drop j)[j] = l[j] := by
  rw [List.getElem_append_right (by simp [mrkL_len])]
  simp [mrkL_len]
theorem set_same {α : Type} (xs : List α) (i : Nat) (v : α) (h : xs[i]? = some v) : xs.set i v = xs := by
  apply List.ext_getElem?
  intro k
  rw [List.getElem?_set]
  split
  · rename_i e
    subst e
    split
    · exact h.symm
    · rename_i hn
      rw [List.getElem?_eq_none (by omega)]
  · rfl
theorem lown_mark {B : Nat} {w : World} {E : TypeId} {g cap n' : Nat} {l : List Lr} (h : ROwn lrS B w E (.slice (some ⟨g, 0, none⟩) n' cap) l) (k : Nat) (hk : k < l.length) (up : Bool) (ep sq : Int) (v : Value) (hv : l[k].v = v) :
    ROwn lrS B (((w.setCell ⟨g, k * 4, none⟩ (.bool up)).setCell ⟨g, k * 4 + 1, none⟩ (.int .i64 ep)).setCell ⟨g, k * 4 + 2, none⟩ (.int .i64 sq)) E (.slice (some ⟨g, 0, none⟩) n' cap) (l.set k ⟨up, ep, sq, v⟩) ∧ w.grownBy (((w.setCell ⟨g, k * 4, none⟩ (.bool up)).setCell ⟨g, k * 4 + 1, none⟩ (.int .i64 ep)).setCell ⟨g, k * 4 + 2, none⟩ (.int .i64 sq)) (some g) := by
  have hn : n' = l.length := h.is.1
  subst hn
  have h1 := stored_many [.bool up, .int .i64 ep, .int .i64 sq] (k * 4) w _ h
  refine ⟨?_, h1.2⟩
  have h2 := flatF_set lrS l k ⟨up, ep, sq, v⟩ hk
  have h3 : setMany (flatF lrS l) (k * 4) [.bool up, .int .i64 ep, .int .i64 sq] = flatF lrS (l.set k ⟨up, ep, sq, v⟩) := by
    rw [← h2]
    show _ = (setMany (flatF lrS l) (k * 4) [.bool up, .int .i64 ep, .int .i64 sq]).set (k * 4 + 3) v
    rw [set_same]
    have h4 : (flatF lrS l)[k * 4 + 3]? = some v := by
      rw [← hv]
      exact flatF_get lrS l k hk 3 (by decide)
    show ((((flatF lrS l).set (k * 4) (.bool up)).set (k * 4 + 1) (.int .i64 ep)).set (k * 4 + 2) (.int .i64 sq))[k * 4 + 3]? = some v
    rw [List.getElem?_set_ne (by omega), List.getElem?_set_ne (by omega), List.getElem?_set_ne (by omega)]
    exact h4
  unfold ROwn
  rw [List.length_set, ← h3]
  exact h1.1

theorem markFly_nil (w : World) (q : Int) :
    Calls Try.prog 92 #[.slice none 0 0, .int .i64 q] w fun e w' => e = .returned (.int .i64 q) ∧ w' = w := by
  go_enter Try.func92, Try.ntmps92
  go_wp2
  go_loopw [1, 5] (fun k i wr => k = .int .i64 q ∧ i = .int .i64 0 ∧ wr = w) (fun _ i _ => 0)
  case atStart => exact ⟨rfl, rfl, rfl⟩
  case round =>
    obtain ⟨rfl, rfl, rfl⟩ := hrel
    go_wp2
    go_ret
    exact ⟨rfl, rfl⟩
theorem heldFly_nil (w : World) (q : Int) :
    Calls Try.prog 93 #[.slice none 0 0, .int .i64 q] w fun e w' => e = .returned (.int .i64 q) ∧ w' = w := by
  go_enter Try.func93, Try.ntmps93
  go_wp2
  go_loopw [1, 5] (fun k i wr => k = .int .i64 q ∧ i = .int .i64 0 ∧ wr = w) (fun _ i _ => 0)
  case atStart => exact ⟨rfl, rfl, rfl⟩
  case round =>
    obtain ⟨rfl, rfl, rfl⟩ := hrel
    go_wp2
    go_ret
    exact ⟨rfl, rfl⟩
theorem markEvents_nil (w : World) (q : Int) :
    Calls Try.prog 62 #[.slice none 0 0, .int .i64 q] w fun e w' => e = .returned (.int .i64 q) ∧ w' = w := by
  go_enter Try.func62, Try.ntmps62
  go_wp2
  go_loopw [1, 5] (fun k i wr => k = .int .i64 q ∧ i = .int .i64 0 ∧ wr = w) (fun _ i _ => 0)
  case atStart => exact ⟨rfl, rfl, rfl⟩
  case round =>
    obtain ⟨rfl, rfl, rfl⟩ := hrel
    go_wp2
    go_ret
    exact ⟨rfl, rfl⟩
theorem heldEvents_nil (w : World) (q : Int) :
    Calls Try.prog 65 #[.slice none 0 0, .int .i64 q] w fun e w' => e = .returned (.int .i64 q) ∧ w' = w := by
  go_enter Try.func65, Try.ntmps65
  go_wp2
  go_loopw [1, 5] (fun k i wr => k = .int .i64 q ∧ i = .int .i64 0 ∧ wr = w) (fun _ i _ => 0)
  case atStart => exact ⟨rfl, rfl, rfl⟩
  case round =>
    obtain ⟨rfl, rfl, rfl⟩ := hrel
    go_wp2
    go_ret
    exact ⟨rfl, rfl⟩

theorem lnil_at {l : List Lr} {j : Nat} (hj : j < l.length) (hv : ∀ r ∈ l, r.v = .slice none 0 0) : l[j].v = .slice none 0 0 := hv _ (List.getElem_mem _)

set_option maxRecDepth 100000 in
set_option maxHeartbeats 2000000 in
theorem markLinkS_nil (w : World) (B : Nat) (a : Option Addr) (len cap : Nat) (l : List Lr) (q : Int) (h : ROwn lrS B w 42 (.slice a len cap) l) (hv : ∀ r ∈ l, r.v = .slice none 0 0) (hlen : len ≤ 2000000) (hq0 : 0 ≤ q) (hq1 : q ≤ 10000000) :
    Calls Try.prog 63 #[.slice a len cap, .int .i64 q] w fun e w' => e = .returned (.int .i64 (q + 3 * (len : Int))) ∧ ROwn lrS B w' 42 (.slice a len cap) (mrkL q len) ∧ w.grownBy w' (Value.slice a len cap).ownBlock := by
  have hnl := h.is.1
  by_cases h0 : len = 0
  · subst h0
    have hl : l = [] := List.length_eq_zero_iff.1 hnl.symm
    subst hl
    have H := Lib.hid h
    clear h hnl
    go_enter Try.func63, Try.ntmps63
    go_wp2
    go_loopw [1, 5] (fun k i wr => k = .int .i64 q ∧ i = .int .i64 0 ∧ wr = w) (fun _ i _ => 0)
    case atStart => exact ⟨rfl, rfl, rfl⟩
    case round =>
      obtain ⟨rfl, rfl, rfl⟩ := hrel
      go_wp2
      go_ret
      exact ⟨by simp, H.out, World.grownBy.refl _ _⟩
  · obtain ⟨g, rfl⟩ : ∃ g, a = some ⟨g, 0, none⟩ := by
      rcases h.2 with ⟨e, h1⟩ | ⟨g, c, cur, e, _⟩
      · omega
      · simp only [Value.slice.injEq] at e
        exact ⟨g, e.1⟩
    have H := Lib.hid h
    have HL := Lib.hid hnl
    have HV := Lib.hid hv
    clear h hnl hv
    go_enter Try.func63, Try.ntmps63
    go_wp2
    go_loopw [1, 5] (fun k i wr => ∃ j : Nat, j ≤ len ∧ k = .int .i64 (q + 3 * (j : Int)) ∧ i = .int .i64 j ∧ Hid (ROwn lrS B wr 42 (.slice (some ⟨g, 0, none⟩) len cap) (mrkL q j ++ l.drop j)) ∧ Hid (w.grownBy wr (some g))) (fun _ i _ => len - (intOf i).toNat)
    case atStart => exact ⟨0, by omega, by go_num, rfl, Lib.hid (by simpa [mrkL] using H.out), Lib.hid (World.grownBy.refl _ _)⟩
    case round =>
      obtain ⟨j, hj, rfl, rfl, HO, HG⟩ := hrel
      by_cases hlt : (j : Int) < (len : Int)
      · have hjl : j < l.length := by have := HL.out; omega
        have hm : j < (mrkL q j ++ l.drop j).length := by rw [mrkL_mid_len q l j (by omega)]; exact hjl
        obtain ⟨⟨up0, ep0, sq0, v0, hrow, c0, c1, c2, c3⟩, f0, f1, f2, f3⟩ := lown_at HO.out j hm
        have hvn : v0 = .slice none 0 0 := by
          have h1 := mrkL_at q l j hjl hm
          rw [hrow] at h1
          have h2 := lnil_at hjl HV.out
          rw [← h1] at h2
          exact h2
        subst hvn
        obtain ⟨k, hk⟩ : ∃ k : Int, k = q + 3 * (j : Int) := ⟨_, rfl⟩
        rw [← hk]
        have hk0 : 0 ≤ k := by omega
        have hk1 : k ≤ 20000000 := by omega
        have hwr : IntKind.i64.wrap (k.tmod 3) = k.tmod 3 := by
          have h3 : k.tmod 3 = k % 3 := Int.tmod_eq_emod_of_nonneg hk0
          rw [h3]
          exact IntWalk.i64_in _ (by omega)
        have hst := lown_mark HO.out j hm (k % 3 == 0) (k + 1) (k + 2) (.slice none 0 0) (by rw [hrow])
        rw [show (⟨k % 3 == 0, k + 1, k + 2, .slice none 0 0⟩ : Lr) = mrk1 (q + 3 * (j : Int)) by rw [hk]; rfl] at hst
        rw [mrkL_step q l j hjl] at hst
        have HS := Lib.hid hst
        have HK := Lib.hid hk
        have hw1 : IntKind.i64.wrap (k + 1) = k + 1 := IntWalk.i64_in _ (by omega)
        have hw2 : IntKind.i64.wrap (k + 1 + 1) = k + 2 := by
          rw [show k + 1 + 1 = k + 2 by omega]
          exact IntWalk.i64_in _ (by omega)
        have hw3 : IntKind.i64.wrap (k + 2 + 1) = k + 3 := by
          rw [show k + 2 + 1 = k + 3 by omega]
          exact IntWalk.i64_in _ (by omega)
        clear hst hm hrow hk
        go_wp2_with fail
        refine (markFly_nil _ _).mono ?_
        rintro e w2 ⟨rfl, rfl⟩
        go_wp2_with fail
        go_roundw
        case rel => exact ⟨j + 1, by omega, by rw [HK.out]; go_num, by go_num, Lib.hid HS.out.1, Lib.hid (HG.out.trans HS.out.2)⟩
        case measure => simp [intOf]; omega
      · have hjl : j = len := by omega
        subst hjl
        have HO' := Lib.hid (show ROwn lrS B wr 42 (.slice (some ⟨g, 0, none⟩) j cap) (mrkL q j) by
          have h1 := HO.out
          rw [List.drop_eq_nil_of_le (by have := HL.out; omega), List.append_nil] at h1
          exact h1)
        clear HO
        go_wp2
        go_ret
        exact ⟨rfl, HO'.out, HG.out⟩

set_option maxRecDepth 100000 in
set_option maxHeartbeats 2000000 in
theorem heldLinkS_nil (w : World) (B : Nat) (a : Option Addr) (len cap : Nat) (q : Int) (h : RIs lrS B w a len (mrkL q len)) (hlen : len ≤ 2000000) (hq0 : 0 ≤ q) (hq1 : q ≤ 10000000) :
    Calls Try.prog 66 #[.slice a len cap, .int .i64 q] w fun e w' => e = .returned (.int .i64 (q + 3 * (len : Int))) ∧ w' = w := by
  have HT := Lib.hid h
  clear h
  go_enter Try.func66, Try.ntmps66
  go_wp2
  go_loopw [1, 5] (fun k i wr => ∃ j : Nat, j ≤ len ∧ k = .int .i64 (q + 3 * (j : Int)) ∧ i = .int .i64 j ∧ wr = w) (fun _ i _ => len - (intOf i).toNat)
  case atStart => exact ⟨0, by omega, by go_num, rfl, rfl⟩
  case round =>
    obtain ⟨j, hj, rfl, rfl, rfl⟩ := hrel
    by_cases hlt : (j : Int) < (len : Int)
    · have hjl : j < (mrkL q len).length := by rw [mrkL_len]; omega
      obtain ⟨b, off, rfl, hb, hc⟩ := HT.out.cell j hjl
      obtain ⟨k, hk⟩ : ∃ k : Int, k = q + 3 * (j : Int) := ⟨_, rfl⟩
      have hrow : (mrkL q len)[j] = mrk1 k := by rw [hk]; simp [mrkL]
      have c0 : wr.cell? ⟨b, off + j * 4, none⟩ = some (.bool (k % 3 == 0)) := hc 0 _ (by rw [hrow]; rfl)
      have c1 : wr.cell? ⟨b, off + j * 4 + 1, none⟩ = some (.int .i64 (k + 1)) := hc 1 _ (by rw [hrow]; rfl)
      have c2 : wr.cell? ⟨b, off + j * 4 + 2, none⟩ = some (.int .i64 (k + 2)) := hc 2 _ (by rw [hrow]; rfl)
      have c3 : wr.cell? ⟨b, off + j * 4 + 3, none⟩ = some (.slice none 0 0) := hc 3 _ (by rw [hrow]; rfl)
      rw [← hk]
      have HK := Lib.hid hk
      have hk0 : 0 ≤ k := by omega
      have hk1 : k ≤ 20000000 := by omega
      have hk3 : ¬ k + 3 < 0 := by omega
      have hwr : IntKind.i64.wrap (k.tmod 3) = k.tmod 3 := by
          have h3 : k.tmod 3 = k % 3 := Int.tmod_eq_emod_of_nonneg hk0
          rw [h3]
          exact IntWalk.i64_in _ (by omega)
      have hw1 : IntKind.i64.wrap (k + 1) = k + 1 := IntWalk.i64_in _ (by omega)
      have hw2 : IntKind.i64.wrap (k + 1 + 1) = k + 2 := by
          rw [show k + 1 + 1 = k + 2 by omega]
          exact IntWalk.i64_in _ (by omega)
      have hw3 : IntKind.i64.wrap (k + 2 + 1) = k + 3 := by
          rw [show k + 2 + 1 = k + 3 by omega]
          exact IntWalk.i64_in _ (by omega)
      have hbb : ((k % 3 == 0) != (k % 3 == 0)) = false := by simp
      clear hc hrow hk
      go_wp2_with fail
      refine (heldFly_nil _ _).mono ?_
      rintro e w2 ⟨rfl, rfl⟩
      go_wp2_with fail
      go_roundw
      case rel => exact ⟨j + 1, by omega, by rw [HK.out]; go_num, by go_num, by trivial⟩
      case measure => simp [intOf]; omega
    · have hjl : j = len := by omega
      subst hjl
      go_wp2
      go_ret
      exact ⟨rfl, rfl⟩
end Go.Proofs.Ytecfomaapomncaa.Gat
