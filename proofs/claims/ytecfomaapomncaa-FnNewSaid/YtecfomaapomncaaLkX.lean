/-
  What the laws do with links: measured, copied, compared, marked.
-/
import Derived.Test.YtecfomaapomncaaLkB
namespace Go.Proofs.Ytecfomaapomncaa.Lnk
open Go.RowKit
set_option linter.unusedVariables false

theorem toFly_any (w : World) (x y z : Int) :
    Calls Try.prog 102 #[.agg #[.int .i64 x, .int .i64 y, .int .i64 z]] w fun e w' => e = .returned (.agg #[.int .i64 x, .int .i64 y, .int .i64 z]) ∧ Below w.heap.size w w' := by
  go_enter Try.func102, Try.ntmps102
  go_wp2
  exact bodyPost_ret (v := .agg #[.int .i64 x, .int .i64 y, .int .i64 z]) (by simp [results, Try.results102, go_sem]) rfl
    ⟨rfl, (((Below.refl _ _).alloc (Nat.le_refl _) _).alloc (by simp) _).alloc (by simp; omega) _⟩
theorem eqFly_yes (w : World) (x y z : Int) :
    Calls Try.prog 103 #[.agg #[.int .i64 x, .int .i64 y, .int .i64 z], .agg #[.int .i64 x, .int .i64 y, .int .i64 z]] w fun e w' => e = .returned (.bool true) ∧ Below w.heap.size w w' := by
  go_enter Try.func103, Try.ntmps103
  go_wp2
  go_ret
  exact ⟨rfl, ((Below.refl _ _).alloc (Nat.le_refl _) _).alloc (by simp) _⟩

theorem set_next (l : List Y) (j : Nat) (h : j < l.length) (x y z : Int) (hx : x = l[j].1) (hy : y = l[j].2.1) (hz : z = l[j].2.2) :
    (l.take j ++ List.replicate (l.length - j) ((0 : Int), (0 : Int), (0 : Int))).set j (x, y, z) = l.take (j + 1) ++ List.replicate (l.length - (j + 1)) (0, 0, 0) := by
  subst hx hy hz
  have e : l.length - j = (l.length - (j + 1)) + 1 := by omega
  rw [e, List.replicate_succ, List.set_append_right _ _ (by simp; omega)]
  have e2 : j - (l.take j).length = 0 := by simp; omega
  rw [e2, List.set_cons_zero, List.take_succ_eq_append_getElem h, List.append_assoc]
  rfl

set_option maxHeartbeats 400000 in
theorem toFlyS_any (w : World) (B : Nat) (a : Option Addr) (len cap : Nat) (l : List Y) (h : YIs B w a len l) (hB : B ≤ w.heap.size) (hlen : len ≤ 1048576) :
    Calls Try.prog 100 #[.slice a len cap] w fun e w' => SliceEnd w w' l e := by
  obtain ⟨i0, hi, hz0, hz1, hz2⟩ := info_parts infoFly
  have hl := h.hlen
  have HT := Lib.hid h
  have HL := Lib.hid hl
  clear h
  go_enter Try.func100, Try.ntmps100
  go_wp2_with (first | (at_make; refine wpList_make_full _ rfl _ _ 40 rfl w.heap.size 96 i0 (.agg #[.int .i64 0, .int .i64 0, .int .i64 0]) 3 Try.underlying40 hi hz0 hz1 .i64 .i64 _ _ len rfl rfl rfl rfl (by rw [hz2]; omega) (by unfold maxLen; omega) (Nat.le_refl _) ?_; intro w1 hown1 hg1) | go_in)
  have hbel1 : Below w.heap.size w w1 := (Below.refl _ _).grown hg1 (Nat.le_refl _) (fun k e => by cases e)
  rw [flat_made] at hown1
  have hown1' : YOwn w.heap.size w1 96 (.slice (some ⟨w.heap.size, 0, none⟩) len len) (l.take 0 ++ List.replicate (l.length - 0) (0, 0, 0)) := by
    unfold YOwn
    simpa [hl] using hown1
  clear hl hown1
  go_loopw [4] (fun i wr => ∃ j : Nat, j ≤ len ∧ i = .int .i64 j ∧ Hid (YOwn w.heap.size wr 96 (.slice (some ⟨w.heap.size, 0, none⟩) len len) (l.take j ++ List.replicate (l.length - j) (0, 0, 0))) ∧ Below w.heap.size w wr) (fun i _ => len - (intOf i).toNat)
  case atStart => exact ⟨0, by omega, rfl, Lib.hid hown1', hbel1⟩
  case round =>
    obtain ⟨j, hj, rfl, HO, hbel⟩ := hrel
    by_cases hlt : (j : Int) < (len : Int)
    · have hjl : j < l.length := by have := HL.out; omega
      obtain ⟨b, off, rfl, hb, c0, c1, c2⟩ := (HT.out.below (hbel.mono hB)).cell j hjl
      obtain ⟨x, hx⟩ : ∃ x, x = l[j].1 := ⟨_, rfl⟩
      obtain ⟨y, hy⟩ : ∃ y, y = l[j].2.1 := ⟨_, rfl⟩
      obtain ⟨z, hz⟩ : ∃ z, z = l[j].2.2 := ⟨_, rfl⟩
      rw [← hx] at c0
      rw [← hy] at c1
      rw [← hz] at c2
      have HX := Lib.hid hx
      have HY := Lib.hid hy
      have HZ := Lib.hid hz
      clear hx hy hz
      go_wp2_with fail
      refine (toFly_any _ x y z).mono ?_
      rintro e w2 ⟨rfl, hb2⟩
      have ho2 := HO.out.below hb2
      have hjj : j < (l.take j ++ List.replicate (l.length - j) ((0 : Int), (0 : Int), (0 : Int))).length := by simp; omega
      obtain ⟨⟨d0, d1, d2⟩, f0, f1, f2⟩ := ho2.cellAt j hjj
      obtain ⟨z0, hz0'⟩ : ∃ z, z = (l.take j ++ List.replicate (l.length - j) ((0 : Int), (0 : Int), (0 : Int)))[j].1 := ⟨_, rfl⟩
      obtain ⟨z1, hz1'⟩ : ∃ z, z = (l.take j ++ List.replicate (l.length - j) ((0 : Int), (0 : Int), (0 : Int)))[j].2.1 := ⟨_, rfl⟩
      obtain ⟨z2, hz2'⟩ : ∃ z, z = (l.take j ++ List.replicate (l.length - j) ((0 : Int), (0 : Int), (0 : Int)))[j].2.2 := ⟨_, rfl⟩
      rw [← hz0'] at d0
      rw [← hz1'] at d1
      rw [← hz2'] at d2
      have hst := ho2.set j hjj x y z
      rw [set_next l j hjl x y z HX.out HY.out HZ.out] at hst
      have hbel2 := hbel.trans (hb2.mono hbel.size)
      have HS := Lib.hid hst
      have HW2 := Lib.hid hbel2
      clear hst ho2 hz0' hz1' hz2' hjj hbel2 HX HY HZ
      go_wp2_with fail
      go_roundw
      case rel => exact ⟨j + 1, by omega, by go_num, Lib.hid HS.out.1, HW2.out.grown HS.out.2 (by have := HW2.out.size; omega) (fun k e => by cases e; exact Nat.le_refl _)⟩
      case measure => simp [intOf]; omega
    · have hjl : j = l.length := by have := HL.out; omega
      have hfin : l.take j ++ List.replicate (l.length - j) ((0 : Int), (0 : Int), (0 : Int)) = l := by rw [hjl]; simp
      have HO' := Lib.hid (hfin ▸ HO.out)
      clear HO hfin hjl
      go_wp2
      go_ret
      have hn := HL.out
      exact ⟨⟨_, _, by rw [hn]; rfl, by have := HO'.out; rwa [hn]⟩, hbel⟩

set_option maxRecDepth 100000 in
set_option maxHeartbeats 400000 in
theorem eqFlyS_yes (w : World) (B : Nat) (a1 a2 : Option Addr) (len c1 c2 : Nat) (l : List Y) (h1 : YIs B w a1 len l) (h2 : YIs B w a2 len l) (hB : B ≤ w.heap.size) :
    Calls Try.prog 101 #[.slice a1 len c1, .slice a2 len c2] w fun e w' => e = .returned (.bool true) ∧ Below w.heap.size w w' := by
  have hl := h1.hlen
  have hle := h1.le
  unfold maxLen at hle
  have H1 := Lib.hid h1
  have H2 := Lib.hid h2
  have HL := Lib.hid hl
  clear h1 h2 hl
  go_enter Try.func101, Try.ntmps101
  go_wp2
  go_loopw [5] (fun i wr => ∃ j : Nat, j ≤ len ∧ i = .int .i64 j ∧ Below w.heap.size w wr) (fun i _ => len - (intOf i).toNat)
  case atStart => exact ⟨0, by omega, rfl, Below.refl _ _⟩
  case round =>
    obtain ⟨j, hj, rfl, hbel⟩ := hrel
    have hsz := hbel.size
    by_cases hlt : (j : Int) < (len : Int)
    · have hjl : j < l.length := by have := HL.out; omega
      obtain ⟨b1, o1, e1, hb1, c0, c1, c2⟩ := (H1.out.below (hbel.mono hB)).cell j hjl
      obtain ⟨b2, o2, e2, hb2, d0, d1, d2⟩ := (H2.out.below (hbel.mono hB)).cell j hjl
      obtain ⟨x, hx⟩ : ∃ x, x = l[j].1 := ⟨_, rfl⟩
      obtain ⟨y, hy⟩ : ∃ y, y = l[j].2.1 := ⟨_, rfl⟩
      obtain ⟨z, hz⟩ : ∃ z, z = l[j].2.2 := ⟨_, rfl⟩
      rw [← hx] at c0 d0
      rw [← hy] at c1 d1
      rw [← hz] at c2 d2
      clear hx hy hz
      subst e1 e2
      have hs1 : b1 < wr.heap.size := by omega
      have hs2 : b2 < wr.heap.size := by omega
      go_wp2
      go_region_held3 (fun w' => w'.cell? ⟨b1, o1 + j * 3, none⟩ = some (.int .i64 x) ∧ w'.cell? ⟨b1, o1 + j * 3 + 1, none⟩ = some (.int .i64 y) ∧ w'.cell? ⟨b1, o1 + j * 3 + 2, none⟩ = some (.int .i64 z) ∧ w'.cell? ⟨b2, o2 + j * 3, none⟩ = some (.int .i64 x) ∧ w'.cell? ⟨b2, o2 + j * 3 + 1, none⟩ = some (.int .i64 y) ∧ w'.cell? ⟨b2, o2 + j * 3 + 2, none⟩ = some (.int .i64 z))
        (first | go_keep | (go_split_ands; exact ⟨below_keep hb3 (Nat.le_refl _) hs1 ‹_›, below_keep hb3 (Nat.le_refl _) hs1 ‹_›, below_keep hb3 (Nat.le_refl _) hs1 ‹_›, below_keep hb3 (Nat.le_refl _) hs2 ‹_›, below_keep hb3 (Nat.le_refl _) hs2 ‹_›, below_keep hb3 (Nat.le_refl _) hs2 ‹_›⟩))
        (first | (go_at_call 103; refine (eqFly_yes _ x y z).mono ?_; rintro e w3 ⟨rfl, hb3⟩))
      go_wp2
      go_roundw
      case rel => exact ⟨j + 1, by omega, by go_num, (below_drew' hbel).trans (hb3.mono (by simpa using hsz))⟩
      case measure => simp [intOf]; omega
    · go_wp2
      go_ret
      exact ⟨rfl, hbel⟩

theorem eqLink_yes (w : World) (B : Nat) (a1 a2 : Option Addr) (len c1 c2 : Nat) (up : Bool) (ep sq : Int) (l : List Y) (h1 : YIs B w a1 len l) (h2 : YIs B w a2 len l) (hB : B ≤ w.heap.size) :
    Calls Try.prog 90 #[.agg #[.bool up, .int .i64 ep, .int .i64 sq, .slice a1 len c1], .agg #[.bool up, .int .i64 ep, .int .i64 sq, .slice a2 len c2]] w fun e w' => e = .returned (.bool true) ∧ Below w.heap.size w w' := by
  have hb0 : ∀ o1 o2, Below w.heap.size w ((w.alloc o1).alloc o2) := fun o1 o2 => ((Below.refl _ _).alloc (Nat.le_refl _) _).alloc (by simp) _
  have H0 := Lib.hid hb0
  have H1 := Lib.hid h1
  have H2 := Lib.hid h2
  clear h1 h2 hb0
  have hbb : (up != up) = false := by simp
  go_enter Try.func90, Try.ntmps90
  go_wp2_with fail
  refine (eqFlyS_yes _ B a1 a2 len c1 c2 l (H1.out.below ((H0.out _ _).mono hB)) (H2.out.below ((H0.out _ _).mono hB)) (by simp; omega)).mono ?_
  rintro e w3 ⟨rfl, hb3⟩
  go_wp2_with fail
  go_ret
  exact ⟨rfl, (H0.out _ _).trans (hb3.mono (by simp; omega))⟩

theorem bcell {W w1 : World} (hb : Below W.heap.size W w1) : (∀ b o, b < W.heap.size → w1.cell? ⟨b, o, none⟩ = W.cell? ⟨b, o, none⟩) ∧ (∀ b o, b < W.heap.size → w1.frozen? ⟨b, o, none⟩ = W.frozen? ⟨b, o, none⟩) :=
  ⟨fun b o h => hb.cell (p := ⟨b, o, none⟩) h, fun b o h => hb.frozen (p := ⟨b, o, none⟩) h⟩

set_option maxHeartbeats 1000000 in
theorem toLink_any (w : World) (B : Nat) (a : Option Addr) (len cap : Nat) (up : Bool) (ep sq : Int) (l : List Y) (h : YIs B w a len l) (hB : B ≤ w.heap.size) (hlen : len ≤ 1048576) :
    Calls Try.prog 87 #[.agg #[.bool up, .int .i64 ep, .int .i64 sq, .slice a len cap]] w fun e w' => LinkEnd w w' up ep sq l e := by
  have hb0 : ∀ o1 o2 o3, Below w.heap.size w (((w.alloc o1).alloc o2).alloc o3) := fun o1 o2 o3 => (((Below.refl _ _).alloc (Nat.le_refl _) _).alloc (by simp) _).alloc (by simp; omega) _
  have H0 := Lib.hid hb0
  have H1 := Lib.hid h
  clear h hb0
  go_enter Try.func87, Try.ntmps87
  go_wp2_with fail
  refine (toFlyS_any _ B a len cap l (H1.out.below ((H0.out _ _ _).mono hB)) (by simp; omega) hlen).mono ?_
  rintro e w3 ⟨⟨a', cap', rfl, ho⟩, hb3⟩
  obtain ⟨hc, hf⟩ := bcell hb3
  have hz : w.heap.size + 3 ≤ w3.heap.size := by have := hb3.size; simp at this; omega
  have HB3 := Lib.hid hb3
  have HO := Lib.hid ho
  clear hb3 ho
  go_wp2_with fail
  refine bodyPost_ret (v := .agg #[.bool up, .int .i64 ep, .int .i64 sq, .slice a' l.length cap']) (by simp [results, Try.results87, go_sem, hc]) rfl ⟨⟨a', cap', rfl, ?_⟩, ?_⟩
  · exact (((((HO.out.setLow (by simp) _).setLow (by simp) _).setLow (by simp) _).setLow (by simp) _).setLow (by simp) _).base (by simp; omega)
  · exact ((((((H0.out _ _ _).trans (HB3.out.mono (by simp; omega))).setCell (by simp; omega) _).setCell (by simp) _).setCell (by simp) _).setCell (by simp) _).setCell (by simp) _

theorem szFlyS_any (w : World) (a : Option Addr) (len cap : Nat) (hl : len ≤ maxLen) :
    Calls Try.prog 99 #[.slice a len cap, .int .i64 1048576] w fun e w' => e = .returned (.int .i64 (if len ≤ 1048576 then 1048576 - (len : Int) else -1)) ∧ w = w' := by
  unfold maxLen at hl
  by_cases h : (1048576 : Int) - len < 0
  · rw [if_neg (by omega)]
    go_enter Try.func99, Try.ntmps99
    go_wp2
    go_ret
    exact ⟨rfl, rfl⟩
  · rw [if_pos (by omega)]
    go_enter Try.func99, Try.ntmps99
    go_wp2
    go_ret
    exact ⟨rfl, rfl⟩
theorem szLink_big (w : World) (a : Option Addr) (len cap : Nat) (up : Bool) (ep sq : Int) (hl : len ≤ maxLen) (hb : 1048576 < len) :
    Calls Try.prog 81 #[.agg #[.bool up, .int .i64 ep, .int .i64 sq, .slice a len cap], .int .i64 1048576] w fun e w' => e = .returned (.int .i64 (-1)) ∧ Below w.heap.size w w' := by
  have HL := Lib.hid hl
  have HB := Lib.hid hb
  clear hl hb
  go_enter Try.func81, Try.ntmps81
  go_wp2_with fail
  refine (szFlyS_any _ a len cap HL.out).mono ?_
  rintro e w' ⟨rfl, rfl⟩
  rw [if_neg (by have := HB.out; omega)]
  go_wp2_with fail
  go_ret
  exact ⟨rfl, (Below.refl _ _).alloc (Nat.le_refl _) _⟩
theorem szLink_small (w : World) (a : Option Addr) (len cap : Nat) (up : Bool) (ep sq : Int) (hl : len ≤ 1048576) :
    Calls Try.prog 81 #[.agg #[.bool up, .int .i64 ep, .int .i64 sq, .slice a len cap], .int .i64 1048576] w fun e w' => (∃ x : Int, 0 ≤ x ∧ e = .returned (.int .i64 x)) ∧ Below w.heap.size w w' := by
  have HL := Lib.hid hl
  obtain ⟨x, hx⟩ : ∃ x : Int, x = 1048576 - (len : Int) := ⟨_, rfl⟩
  have hx0 : 0 ≤ x := by omega
  have HX := Lib.hid hx
  clear hl hx
  go_enter Try.func81, Try.ntmps81
  go_wp2_with fail
  refine (szFlyS_any _ a len cap (by have := HL.out; unfold maxLen; omega)).mono ?_
  rintro e w' ⟨rfl, rfl⟩
  rw [if_pos HL.out, ← HX.out]
  go_wp2_with fail
  go_ret
  exact ⟨⟨x, hx0, rfl⟩, (Below.refl _ _).alloc (Nat.le_refl _) _⟩

set_option maxRecDepth 100000 in
set_option maxHeartbeats 400000 in
theorem markFlyS_any (w : World) (B : Nat) (a : Option Addr) (len cap : Nat) (l : List Y) (h : YOwn B w 96 (.slice a len cap) l) (hlen : len ≤ 2000000) :
    Calls Try.prog 92 #[.slice a len cap, .int .i64 1] w fun e w' => e = .returned (.int .i64 (1 + 3 * (len : Int))) ∧ YOwn B w' 96 (.slice a len cap) (mrkY 1 len) ∧ w.grownBy w' (Value.slice a len cap).ownBlock := by
  have hnl := h.is.1
  by_cases h0 : len = 0
  · subst h0
    have hl : l = [] := List.length_eq_zero_iff.1 hnl.symm
    subst hl
    have H := Lib.hid h
    clear h hnl
    go_enter Try.func92, Try.ntmps92
    go_wp2
    go_loopw [1, 5] (fun k i wr => k = .int .i64 1 ∧ i = .int .i64 0 ∧ wr = w) (fun _ i _ => 0)
    case atStart => exact ⟨rfl, rfl, rfl⟩
    case round =>
      obtain ⟨rfl, rfl, rfl⟩ := hrel
      go_wp2
      go_ret
      exact ⟨rfl, H.out, World.grownBy.refl _ _⟩
  · obtain ⟨g, rfl⟩ : ∃ g, a = some ⟨g, 0, none⟩ := by
      rcases h.2 with ⟨e, h1⟩ | ⟨g, c, cur, e, _⟩
      · omega
      · simp only [Value.slice.injEq] at e
        exact ⟨g, e.1⟩
    have H := Lib.hid h
    have HL := Lib.hid hnl
    clear h hnl
    go_enter Try.func92, Try.ntmps92
    go_wp2
    go_loopw [1, 5] (fun k i wr => ∃ j : Nat, j ≤ len ∧ k = .int .i64 (1 + 3 * (j : Int)) ∧ i = .int .i64 j ∧ Hid (YOwn B wr 96 (.slice (some ⟨g, 0, none⟩) len cap) (mrkY 1 j ++ l.drop j)) ∧ Hid (w.grownBy wr (some g))) (fun _ i _ => len - (intOf i).toNat)
    case atStart => exact ⟨0, by omega, rfl, rfl, Lib.hid (by simpa [mrkY] using H.out), Lib.hid (World.grownBy.refl _ _)⟩
    case round =>
      obtain ⟨j, hj, rfl, rfl, HO, HG⟩ := hrel
      by_cases hlt : (j : Int) < (len : Int)
      · have hjl : j < l.length := by have := HL.out; omega
        have hm : j < (mrkY 1 j ++ l.drop j).length := by rw [mrkY_mid_len 1 l j (by omega)]; exact hjl
        obtain ⟨⟨c0, c1, c2⟩, f0, f1, f2⟩ := HO.out.cellAt j hm
        obtain ⟨z0, hz0⟩ : ∃ z, z = (mrkY 1 j ++ l.drop j)[j].1 := ⟨_, rfl⟩
        obtain ⟨z1, hz1⟩ : ∃ z, z = (mrkY 1 j ++ l.drop j)[j].2.1 := ⟨_, rfl⟩
        obtain ⟨z2, hz2⟩ : ∃ z, z = (mrkY 1 j ++ l.drop j)[j].2.2 := ⟨_, rfl⟩
        rw [← hz0] at c0
        rw [← hz1] at c1
        rw [← hz2] at c2
        have hst := HO.out.set j hm (1 + 3 * (j : Int)) (1 + 3 * (j : Int) + 1) (1 + 3 * (j : Int) + 2)
        rw [mrkY_step 1 l j hjl] at hst
        have hw1 : IntKind.i64.wrap (1 + 3 * (j : Int) + 1 + 1) = 1 + 3 * (j : Int) + 2 := by rw [IntWalk.i64_in _ (by omega)]; omega
        have HS := Lib.hid hst
        clear hst hm hz0 hz1 hz2
        go_wp2_with fail
        go_roundw
        case rel => exact ⟨j + 1, by omega, by go_num, by go_num, Lib.hid HS.out.1, Lib.hid (HG.out.trans HS.out.2)⟩
        case measure => simp [intOf]; omega
      · have hjl : j = len := by omega
        subst hjl
        have HO' := Lib.hid (show YOwn B wr 96 (.slice (some ⟨g, 0, none⟩) j cap) (mrkY 1 j) by
          have h1 := HO.out
          rw [List.drop_eq_nil_of_le (by have := HL.out; omega), List.append_nil] at h1
          exact h1)
        clear HO
        go_wp2
        go_ret
        exact ⟨rfl, HO'.out, HG.out⟩

set_option maxRecDepth 100000 in
set_option maxHeartbeats 400000 in
theorem heldFlyS_any (w : World) (B : Nat) (a : Option Addr) (len cap : Nat) (h : YIs B w a len (mrkY 1 len)) (hlen : len ≤ 2000000) :
    Calls Try.prog 93 #[.slice a len cap, .int .i64 1] w fun e w' => e = .returned (.int .i64 (1 + 3 * (len : Int))) ∧ w = w' := by
  have H := Lib.hid h
  clear h
  go_enter Try.func93, Try.ntmps93
  go_wp2
  go_loop [1, 5] (fun k i => ∃ j : Nat, j ≤ len ∧ k = .int .i64 (1 + 3 * (j : Int)) ∧ i = .int .i64 j) (fun _ i => len - (intOf i).toNat)
  case atStart => exact ⟨0, by omega, rfl, rfl⟩
  case round =>
    obtain ⟨j, hj, rfl, rfl⟩ := hrel
    by_cases hlt : (j : Int) < (len : Int)
    · have hjl : j < (mrkY 1 len).length := by rw [mrkY_len]; omega
      obtain ⟨b, off, rfl, hb, c0, c1, c2⟩ := H.out.cell j hjl
      rw [mrkY_get] at c0 c1 c2
      simp only at c0 c1 c2
      have hw1 : IntKind.i64.wrap (1 + 3 * (j : Int) + 1 + 1) = 1 + 3 * (j : Int) + 2 := by rw [IntWalk.i64_in _ (by omega)]; omega
      go_wp2_with fail
      go_round
      case rel => exact ⟨j + 1, by omega, by go_num, by go_num⟩
      case measure => simp [intOf]; omega
    · have hjl : j = len := by omega
      subst hjl
      go_wp2
      go_ret
      exact ⟨rfl, rfl⟩

end Go.Proofs.Ytecfomaapomncaa.Lnk
