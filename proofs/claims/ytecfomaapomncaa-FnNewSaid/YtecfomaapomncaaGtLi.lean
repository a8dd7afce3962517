/-
  Letters and links of a right gate: the walks of the program's tests.
-/
import Derived.Test.YtecfomaapomncaaGtMe
import Derived.Test.YtecfomaapomncaaLkC
import Derived.Test.YtecfomaapomncaaLkW
import Derived.Shelf.Abstract
namespace Go.Proofs.Ytecfomaapomncaa.Gat
open Go.RowKit Go.Maps
open Lnk (bOne bAfter IOwn IIs below_keep below_drew' low_after low_alloc keyInt grown_of_below lokB LOk idsL)
set_option linter.unusedVariables false

def isDead (e : Ev) : Bool := e.s == 3
def isFly (d : Int) (e : Ev) : Bool := (e.s == 1) && (e.d == d)
def leP (rn : Nat) (le : Int) (E : List Ev) (R : List Int) : Prop := (rn : Int) ≤ le ∧ MetP (fillK isDead E) R
def liGood (wi d : Int) (E : List Ev) (k : Lk) : Prop := LOk k.up k.ep k.sq k.l ∧ (k.l.length : Int) ≤ wi ∧ MetP (fillK (isFly d) E) (idsL k.l)
def liP (kn : Nat) (de wi : Int) (E : List Ev) (K : List Lk) : Prop := (kn : Int) = de ∧ ∀ k, (h : k < K.length) → liGood wi ((k : Int) + 1) E K[k]
theorem ids_wf {up : Bool} {ep sq : Int} {l : List Lnk.Y} (h : LOk up ep sq l) : ∀ x ∈ idsL l, (Lit.int .i64 x).wf = true := by
  intro x hx
  obtain ⟨t, ht, rfl⟩ := List.mem_map.1 hx
  have h1 := (h.rng t ht).2.2
  exact WalkArith.wf_i64 (by have := h1.1; have := h1.2.1; omega)
theorem lok_of {up : Bool} {ep sq : Int} {l : List Lnk.Y} {x : Bool} (h : lokB up ep sq l = x) : x = true ↔ LOk up ep sq l := by
  rw [← h]
  unfold lokB
  simp

theorem dead_any (i d c : Int) (b : ByteArray) (a t r n s : Int) (w : World) :
    Calls Try.prog 77 #[.agg #[.int .i64 i, .int .i64 d, .int .i64 c, .string b, .int .i64 a, .int .i64 t, .int .i64 r, .int .i64 n, .int .i64 s]] w fun e w' => e = .returned (.bool (isDead ⟨i, d, c, b, a, t, r, n, s⟩)) ∧ Below w.heap.size w w' := by
  have hd : isDead ⟨i, d, c, b, a, t, r, n, s⟩ = (s == 3) := rfl
  rw [hd]
  go_enter Try.func77, Try.ntmps77
  go_wp2
  go_ret
  exact ⟨rfl, bOne _ _⟩
theorem enters_dead : ∀ (args : Array Value) (w1 : World), (callFunc 77 args).run Try.prog w1 = .ok (.enter 77 args) w1 := enters_of Try.func77 (by kernel_rfl) rfl
theorem fly_any (i d c : Int) (b : ByteArray) (a t r n s : Int) (k off : Nat) (j : Int) (w : World) (hj : 0 ≤ j ∧ j ≤ 1000) (hP : w.cell? ⟨k, off, none⟩ = some (.int .i64 j)) :
    Calls Try.prog 74 #[.agg #[.int .i64 i, .int .i64 d, .int .i64 c, .string b, .int .i64 a, .int .i64 t, .int .i64 r, .int .i64 n, .int .i64 s], .pointer (some ⟨k, off, none⟩)] w fun e w' => e = .returned (.bool (isFly (j + 1) ⟨i, d, c, b, a, t, r, n, s⟩)) ∧ Below w.heap.size w w' := by
  have hd : isFly (j + 1) ⟨i, d, c, b, a, t, r, n, s⟩ = ((s == 1) && (d == j + 1)) := rfl
  rw [hd]
  have hk := World.block_lt_of_cell? w _ hP
  have hw1 : IntKind.i64.wrap (j + 1) = j + 1 := IntWalk.i64_in _ (by omega)
  have hc := (bOne w (.cells #[.int .i64 i, .int .i64 d, .int .i64 c, .string b, .int .i64 a, .int .i64 t, .int .i64 r, .int .i64 n, .int .i64 s] 65)).cell (p := ⟨k, off, none⟩) hk
  rw [hP] at hc
  have HE := Evt.B9.new w i d c b a t r n s 65
  obtain ⟨y0, y1, y2, y3, y4, y5, y6, y7, y8, ylt⟩ := HE
  clear hd hk hP
  cases h1 : (s == 1) with
  | false =>
    go_enter Try.func74, Try.ntmps74
    go_wp2
    go_ret
    exact ⟨rfl, bOne _ _⟩
  | true =>
    go_enter Try.func74, Try.ntmps74
    go_wp2
    go_ret
    exact ⟨rfl, bOne _ _⟩
theorem enters_fly : ∀ (args : Array Value) (w1 : World), (callFunc 74 args).run Try.prog w1 = .ok (.enter 74 args) w1 := enters_of Try.func74 (by kernel_rfl) rfl

set_option maxRecDepth 100000 in
set_option maxHeartbeats 4000000 in
theorem implLetters_any (w : World) (de qu wi ti qa bu le pb pc pj pt nw la : Int) (ea : Option Addr) (en ec : Nat) (ka : Option Addr) (kn kc : Nat) (tu : Int) (fa : Option Addr) (fn fc : Nat) (ra : Option Addr) (rn rc : Nat) (tk ac dr : Int) (E : List Ev) (K : List Lk) (F R : List Int) (hE : ∀ e ∈ E, (Lit.int .i64 e.i).wf = true) (hR : ∀ x ∈ R, (Lit.int .i64 x).wf = true) (hen : en ≤ 1048576) (hrn : rn ≤ 1048576) (h : GIs w.heap.size w ea en ka kn fa fn ra rn E K F R) :
    Calls Try.prog 41 #[.agg #[.int .i64 de, .int .i64 qu, .int .i64 wi, .int .i64 ti, .int .i64 qa, .int .i64 bu, .int .i64 le, .int .i64 pb, .int .i64 pc, .int .i64 pj, .int .i64 pt, .int .i64 nw, .int .i64 la, .slice ea en ec, .slice ka kn kc, .int .i64 tu, .slice fa fn fc, .slice ra rn rc, .int .i64 tk, .int .i64 ac, .int .i64 dr]] w fun e w' => BEnd w w' (leP rn le E R) e := by
  have hmm := @run_makeMap Try.prog
  obtain ⟨W0, hW0⟩ : ∃ W, W = w.alloc (.cells #[.int .i64 de, .int .i64 qu, .int .i64 wi, .int .i64 ti, .int .i64 qa, .int .i64 bu, .int .i64 le, .int .i64 pb, .int .i64 pc, .int .i64 pj, .int .i64 pt, .int .i64 nw, .int .i64 la, .slice ea en ec, .slice ka kn kc, .int .i64 tu, .slice fa fn fc, .slice ra rn rc, .int .i64 tk, .int .i64 ac, .int .i64 dr] 33) := ⟨_, rfl⟩
  have HA : Hid (Box W0 w.heap.size 33 [.int .i64 de, .int .i64 qu, .int .i64 wi, .int .i64 ti, .int .i64 qa, .int .i64 bu, .int .i64 le, .int .i64 pb, .int .i64 pc, .int .i64 pj, .int .i64 pt, .int .i64 nw, .int .i64 la, .slice ea en ec, .slice ka kn kc, .int .i64 tu, .slice fa fn fc, .slice ra rn rc, .int .i64 tk, .int .i64 ac, .int .i64 dr]) := Lib.hid (by rw [hW0]; exact Box.new w [.int .i64 de, .int .i64 qu, .int .i64 wi, .int .i64 ti, .int .i64 qa, .int .i64 bu, .int .i64 le, .int .i64 pb, .int .i64 pc, .int .i64 pj, .int .i64 pt, .int .i64 nw, .int .i64 la, .slice ea en ec, .slice ka kn kc, .int .i64 tu, .slice fa fn fc, .slice ra rn rc, .int .i64 tk, .int .i64 ac, .int .i64 dr] 33)
  have HL : Hid (Below w.heap.size w W0) := Lib.hid (by rw [hW0]; exact bOne _ _)
  have HWE := Lib.hid hW0
  have HSZ := Lib.hid (show w.heap.size + 1 = W0.heap.size by rw [hW0]; simp)
  have c6 := HA.out.cell 6 _ rfl
  have c17 := HA.out.cell 17 _ rfl
  have HT := Lib.hid h
  have HEW := Lib.hid hE
  have HRW := Lib.hid hR
  clear h hW0 hE hR
  by_cases hbig : le < (rn : Int)
  · have HNP := Lib.hid (show ¬ leP rn le E R from fun h => by have := h.1; omega)
    go_enter Try.func41, Try.ntmps41
    go_upto_region 1 with fail
    rw [← HWE.out]
    go_wp2_with fail
    go_ret
    exact bend_no HNP.out HL.out
  have HLE := Lib.hid (show (rn : Int) ≤ le by omega)
  go_enter Try.func41, Try.ntmps41
  go_upto_region 1 with fail
  rw [← HWE.out]
  clear HWE
  go_upto_region 4 with fail
  clear c6 c17 hbig
  have HM0 := Lib.hid (World.ownsMap_made (H := Unit) W0 Try.prog 3 (plainElem (H := Unit) Try.prog 3))
  have HB1 := Lib.hid (bOne W0 (.map #[] 0))
  obtain ⟨b, hb⟩ : ∃ b, b = W0.heap.size := ⟨_, rfl⟩
  rw [← hb] at HM0 ⊢
  have HA1 := Lib.hid (HA.out.below HB1.out)
  have HL1 := Lib.hid (low_after HL.out HB1.out)
  have HBS := Lib.hid (show b ≤ (W0.alloc (.map #[] 0)).heap.size by rw [hb]; simp)
  have HBW := Lib.hid (show w.heap.size < b by rw [hb]; have := HSZ.out; omega)
  have HG1 := Lib.hid (show GIs b (W0.alloc (.map #[] 0)) ea en ka kn fa fn ra rn E K F R from (HT.out.below (low_after HL.out HB1.out)).mono (Nat.le_of_lt HBW.out))
  clear hb HA HL HSZ HB1
  obtain ⟨W1, hW1⟩ : ∃ W, W = W0.alloc (.map #[] 0) := ⟨_, rfl⟩
  rw [← hW1] at HM0 HA1 HG1 HL1 HBS ⊢
  clear hW1
  have c13 := HA1.out.cell 13 _ rfl
  go_wp2_with fail
  refine (fill0_any 77 isDead W1 b b 0 _ ea en ec E (Nat.le_refl _) HBS.out HG1.out.ev HEW.out (by omega) HM0.out enters_dead (fun w1 i d c bd at_ t r n s hg => dead_any i d c bd at_ t r n s w1)).mono ?_
  rintro e w2 ⟨rfl, ⟨D, hM, hV⟩, hg⟩
  have HM := Lib.hid hM
  have HBB := Lib.hid (show Below b W1 w2 from (Below.refl _ _).grown hg HBS.out (fun k e => by cases e; exact Nat.le_refl _))
  have HA2 := Lib.hid (HA1.out.low HBB.out HBW.out)
  have HG2 := Lib.hid (HG1.out.below HBB.out)
  have HS2 := Lib.hid (Nat.le_trans HBS.out HBB.out.size)
  have HL2 := Lib.hid (HL1.out.trans (HBB.out.mono (Nat.le_of_lt HBW.out)))
  clear hM hV hg c13
  have c17 := HA2.out.cell 17 _ rfl
  go_wp2_with fail
  refine (meet_any w2 b en D _ ra rn rc R HM.out (fillK_nodup _ _) (Lnk.IIs.mono HG2.out.lt HS2.out) HRW.out (by omega)).mono ?_
  rintro e w3 ⟨⟨x, rfl, hx⟩, hg3, _⟩
  have HX := Lib.hid hx
  have HL3 := Lib.hid (HL2.out.grown hg3 HL2.out.size (fun k e => by cases e; exact Nat.le_of_lt HBW.out))
  clear hx hg3
  go_wp2_with fail
  go_ret
  exact ⟨⟨x, rfl, by rw [HX.out]; exact ⟨fun h => ⟨HLE.out, h⟩, fun h => h.2⟩⟩, HL3.out⟩

set_option maxRecDepth 100000 in
set_option maxHeartbeats 8000000 in
theorem implLinks_any (w : World) (de qu wi ti qa bu le pb pc pj pt nw la : Int) (ea : Option Addr) (en ec : Nat) (ka : Option Addr) (kn kc : Nat) (tu : Int) (fa : Option Addr) (fn fc : Nat) (ra : Option Addr) (rn rc : Nat) (tk ac dr : Int) (E : List Ev) (K : List Lk) (F R : List Int) (hE : ∀ e ∈ E, (Lit.int .i64 e.i).wf = true) (hen : en ≤ 1048576) (hde : de ≤ 1000) (h : GIs w.heap.size w ea en ka kn fa fn ra rn E K F R) :
    Calls Try.prog 39 #[.agg #[.int .i64 de, .int .i64 qu, .int .i64 wi, .int .i64 ti, .int .i64 qa, .int .i64 bu, .int .i64 le, .int .i64 pb, .int .i64 pc, .int .i64 pj, .int .i64 pt, .int .i64 nw, .int .i64 la, .slice ea en ec, .slice ka kn kc, .int .i64 tu, .slice fa fn fc, .slice ra rn rc, .int .i64 tk, .int .i64 ac, .int .i64 dr]] w fun e w' => BEnd w w' (liP kn de wi E K) e := by
  have hmm := @run_makeMap Try.prog
  obtain ⟨W0, hW0⟩ : ∃ W, W = w.alloc (.cells #[.int .i64 de, .int .i64 qu, .int .i64 wi, .int .i64 ti, .int .i64 qa, .int .i64 bu, .int .i64 le, .int .i64 pb, .int .i64 pc, .int .i64 pj, .int .i64 pt, .int .i64 nw, .int .i64 la, .slice ea en ec, .slice ka kn kc, .int .i64 tu, .slice fa fn fc, .slice ra rn rc, .int .i64 tk, .int .i64 ac, .int .i64 dr] 33) := ⟨_, rfl⟩
  have HA : Hid (Box W0 w.heap.size 33 [.int .i64 de, .int .i64 qu, .int .i64 wi, .int .i64 ti, .int .i64 qa, .int .i64 bu, .int .i64 le, .int .i64 pb, .int .i64 pc, .int .i64 pj, .int .i64 pt, .int .i64 nw, .int .i64 la, .slice ea en ec, .slice ka kn kc, .int .i64 tu, .slice fa fn fc, .slice ra rn rc, .int .i64 tk, .int .i64 ac, .int .i64 dr]) := Lib.hid (by rw [hW0]; exact Box.new w [.int .i64 de, .int .i64 qu, .int .i64 wi, .int .i64 ti, .int .i64 qa, .int .i64 bu, .int .i64 le, .int .i64 pb, .int .i64 pc, .int .i64 pj, .int .i64 pt, .int .i64 nw, .int .i64 la, .slice ea en ec, .slice ka kn kc, .int .i64 tu, .slice fa fn fc, .slice ra rn rc, .int .i64 tk, .int .i64 ac, .int .i64 dr] 33)
  have HL : Hid (Below w.heap.size w W0) := Lib.hid (by rw [hW0]; exact bOne _ _)
  have HWE := Lib.hid hW0
  have HSZ := Lib.hid (show w.heap.size + 1 = W0.heap.size by rw [hW0]; simp)
  have c0 := HA.out.cell 0 _ rfl
  have c14 := HA.out.cell 14 _ rfl
  have HT := Lib.hid h
  have HEW := Lib.hid hE
  have HKN := Lib.hid h.lk.hlen
  have hkl := h.lk.le
  unfold maxLen at hkl
  clear h hW0 hE
  by_cases hne : (kn : Int) = de
  rotate_left
  · have HNP := Lib.hid (show ¬ liP kn de wi E K from fun h => hne h.1)
    have hbb : ((kn : Int) != de) = true := by simp; omega
    go_enter Try.func39, Try.ntmps39
    go_upto_region 1 with fail
    rw [← HWE.out]
    go_wp2_with fail
    go_ret
    exact bend_no HNP.out HL.out
  have hbb : ((kn : Int) != de) = false := by simp; omega
  have HKD := Lib.hid hne
  have hk6 : kn ≤ 1000 := by omega
  clear hne
  go_enter Try.func39, Try.ntmps39
  go_upto_region 1 with fail
  rw [← HWE.out]
  clear HWE
  go_upto_region 4 with fail
  clear c0 c14 hbb
  have HM0 := Lib.hid (World.ownsMap_made (H := Unit) W0 Try.prog 3 (plainElem (H := Unit) Try.prog 3))
  have HB1 := Lib.hid (bOne W0 (.map #[] 0))
  obtain ⟨b, hb⟩ : ∃ b, b = W0.heap.size := ⟨_, rfl⟩
  rw [← hb] at HM0 ⊢
  have HA1 := Lib.hid (HA.out.below HB1.out)
  have HL1 := Lib.hid (low_after HL.out HB1.out)
  have HBS := Lib.hid (show b ≤ (W0.alloc (.map #[] 0)).heap.size by rw [hb]; simp)
  have HBW := Lib.hid (show w.heap.size < b by rw [hb]; have := HSZ.out; omega)
  have HG1 := Lib.hid (show GIs b (W0.alloc (.map #[] 0)) ea en ka kn fa fn ra rn E K F R from (HT.out.below (low_after HL.out HB1.out)).mono (Nat.le_of_lt HBW.out))
  clear hb HA HL HSZ HB1
  obtain ⟨W1, hW1⟩ : ∃ W, W = W0.alloc (.map #[] 0) := ⟨_, rfl⟩
  rw [← hW1] at HM0 HA1 HG1 HL1 HBS ⊢
  clear hW1
  have c14 := HA1.out.cell 14 _ rfl
  go_wp2_with fail
  clear c14
  go_loopw [17] (fun i wr => ∃ (j n : Nat) (D : DataW Unit) (M : List Int), j ≤ kn ∧ i = .int .i64 j ∧ Hid (∀ k, (h : k < K.length) → k < j → liGood wi ((k : Int) + 1) E K[k]) ∧ Hid (wr.ownsMap Try.prog 3 (plainElem (H := Unit) Try.prog 3) b n D) ∧ Hid (Below b W1 wr) ∧ Hid (b ≤ wr.heap.size)) (fun i _ => kn - (intOf i).toNat)
  case atStart => exact ⟨0, 0, _, [], by omega, rfl, Lib.hid (fun k _ hk => by omega), HM0, Lib.hid (Below.refl _ _), HBS⟩
  case round =>
    obtain ⟨j, n, D, M, hj, rfl, HQ, HM, HB, HS⟩ := hrel
    by_cases hlt : (j : Int) < (kn : Int)
    · have hjl : j < K.length := by have := HKN.out; omega
      obtain ⟨b', off, up, ep, sq, y, fa1, fl, fc1, rfl, hb', hlj, hy, p0, p1, p2, p3⟩ := HG1.out.lk.at j hjl
      have x0 := (HB.out.cell (p := ⟨b', off + j * 4, none⟩) hb').trans p0
      have x1 := (HB.out.cell (p := ⟨b', off + j * 4 + 1, none⟩) hb').trans p1
      have x2 := (HB.out.cell (p := ⟨b', off + j * 4 + 2, none⟩) hb').trans p2
      have x3 := (HB.out.cell (p := ⟨b', off + j * 4 + 3, none⟩) hb').trans p3
      have HJ := Lib.hid hlj
      have HYL := Lib.hid hy.hlen
      have hyle := hy.le
      unfold maxLen at hyle
      have HY := Lib.hid hy
      clear hlj hb' hy p0 p1 p2 p3
      obtain ⟨W2, hW2⟩ : ∃ W, W = wr.alloc (.cells #[.int .i64 j] 3) := ⟨_, rfl⟩
      obtain ⟨W3, hW3⟩ : ∃ W, W = W2.alloc (.cells #[.bool up, .int .i64 ep, .int .i64 sq, .slice fa1 fl fc1] 42) := ⟨_, rfl⟩
      have hb3 : Below W2.heap.size W2 W3 := by rw [hW3]; exact bOne _ _
      have hb2 : Below wr.heap.size wr W2 := by rw [hW2]; exact bOne _ _
      have HB23 := Lib.hid (low_after hb2 hb3)
      have HP := Lib.hid (show Box W3 wr.heap.size 3 [.int .i64 j] by
        have h1 : Box W2 wr.heap.size 3 [.int .i64 j] := by rw [hW2]; exact Box.new wr [.int .i64 j] 3
        exact h1.below hb3)
      have HZ2 := Lib.hid (show W2.heap.size = wr.heap.size + 1 by rw [hW2]; simp)
      have HLX := Lib.hid (show Box W3 (wr.heap.size + 1) 42 [.bool up, .int .i64 ep, .int .i64 sq, .slice fa1 fl fc1] by
        rw [hW3, ← HZ2.out]; exact Box.new W2 [.bool up, .int .i64 ep, .int .i64 sq, .slice fa1 fl fc1] 42)
      have HWE2 := Lib.hid hW2
      have HWE3 := Lib.hid hW3
      have HNO := Lib.hid (show ¬ liGood wi ((j : Int) + 1) E ⟨up, ep, sq, y⟩ → ¬ liP kn de wi E K from fun hn h => hn (by have := h.2 j hjl; rwa [HJ.out] at this))
      clear hW2 hW3 hb2 hb3
      go_upto_region 7 with fail
      rw [← HWE2.out, ← HWE3.out]
      clear x0 x1 x2 x3
      have x0 := HLX.out.cell 0 _ rfl
      have x1 := HLX.out.cell 1 _ rfl
      have x2 := HLX.out.cell 2 _ rfl
      have x3 := HLX.out.cell 3 _ rfl
      have HB3 := Lib.hid (show Below b W1 W3 from HB.out.trans (HB23.out.mono HS.out))
      have HS3 := Lib.hid (Nat.le_trans HS.out HB23.out.size)
      have HM3 := Lib.hid (World.ownsMap.kept HM.out (grown_of_below HB23.out none) (by simp))
      clear HB23 HWE2 HWE3
      go_wp2_with fail
      refine (Lnk.linkOk_any _ fa1 fl fc1 up ep sq y ((HY.out.below HB3.out).mono HS3.out)).mono ?_
      rintro e w4 ⟨rfl, hb⟩
      have HB4 := Lib.hid (HB3.out.trans (hb.mono HS3.out))
      have HS4 := Lib.hid (Nat.le_trans HS3.out hb.size)
      have HM4 := Lib.hid (World.ownsMap.kept HM3.out (grown_of_below hb none) (by simp))
      have HP4 := Lib.hid (HP.out.below hb)
      have HLX4 := Lib.hid (HLX.out.below hb)
      have HA4 := Lib.hid (HA1.out.low HB4.out HBW.out)
      have HG4 := Lib.hid (HG1.out.below HB4.out)
      clear hb HB3 HS3 HM3 HP HLX x0 x1 x2 x3
      have x3 := HLX4.out.cell 3 _ rfl
      have c2 := HA4.out.cell 2 _ rfl
      have c13 := HA4.out.cell 13 _ rfl
      have HLF := Lib.hid (show Below w.heap.size w w4 from HL1.out.trans (HB4.out.mono (Nat.le_of_lt HBW.out)))
      cases hlok : lokB up ep sq y with
      | false =>
        have HNP := Lib.hid (HNO.out (fun h => by have := (lok_of hlok).2 h.1; cases this))
        clear hlok
        go_wp2_with fail
        go_ret
        exact bend_no HNP.out HLF.out
      | true =>
      have HLK := Lib.hid ((lok_of hlok).1 rfl)
      clear hlok
      by_cases hwi : wi < (fl : Int)
      · have HNP := Lib.hid (HNO.out (fun h => by have := h.2.1; have h2 := HYL.out; dsimp only at this; omega))
        go_wp2_with fail
        go_ret
        exact bend_no HNP.out HLF.out
      have HWI := Lib.hid hwi
      go_wp2_with fail
      refine (fill1_any 74 ⟨wr.heap.size, 0, none⟩ (isFly ((j : Int) + 1)) w4 b b n D ea en ec E (Nat.le_refl _) HS4.out HG4.out.ev HEW.out (by omega) HM4.out enters_fly (fun w1 i d c bd at_ t r n s hg => fly_any i d c bd at_ t r n s wr.heap.size 0 (j : Int) w1 (by omega) (hg.cell (a := ⟨wr.heap.size, 0, none⟩) (HP4.out.cell 0 _ rfl) (fun e => by injection e with e; have h1 := HM.out.lt; dsimp only at e; omega)))).mono ?_
      rintro e w5 ⟨rfl, ⟨D5, hM5, _⟩, hg⟩
      have HBB := Lib.hid (show Below b w4 w5 from (Below.refl _ _).grown hg HS4.out (fun k e => by cases e; exact Nat.le_refl _))
      have HB5 := Lib.hid (HB4.out.trans HBB.out)
      have HS5 := Lib.hid (Nat.le_trans HS4.out HBB.out.size)
      have HLX5 := Lib.hid (HLX4.out.grown hg (fun e => by injection e with e; have h1 := HM.out.lt; omega))
      have HM5 := Lib.hid hM5
      clear hM5 hg x3 c2 c13 HM4 HP4 HLX4 HA4 HG4 HLF hwi HBB
      have x3 := HLX5.out.cell 3 _ rfl
      have HFL := Lib.hid (show fl ≤ 8 by have := HLK.out.len; have := HYL.out; omega)
      go_wp2_with fail
      refine (Lnk.flyingIds_any _ fa1 fl fc1 y ((HY.out.below HB5.out).mono HS5.out) (by have := HFL.out; omega)).mono ?_
      rintro e w6 ⟨⟨a6, cap6, rfl, ho6⟩, hb⟩
      have HB6 := Lib.hid (HB5.out.trans (hb.mono HS5.out))
      have HS6 := Lib.hid (Nat.le_trans HS5.out hb.size)
      have HM6 := Lib.hid (HM5.out.below hb)
      have HI6 := Lib.hid (Lnk.IOwn.isN ho6)
      obtain ⟨m6, hm6⟩ : ∃ m, m = (idsL y).length := ⟨_, rfl⟩
      rw [← hm6] at HI6 ⊢
      have HM8 := Lib.hid (show m6 ≤ 2000000 by rw [hm6]; unfold idsL; rw [List.length_map]; have := HLK.out.len; omega)
      clear hb ho6 hm6 x3 HLX5 HM5 HB5 HS5
      go_wp2_with fail
      refine (meet_any w6 b en D5 _ a6 m6 cap6 (idsL y) HM6.out (fillK_nodup _ _) HI6.out (ids_wf HLK.out) HM8.out).mono ?_
      rintro e w7 ⟨⟨x, rfl, hx⟩, hg7, n7, D7, K7, hM7⟩
      have HB7 := Lib.hid (HB6.out.grown hg7 HS6.out (fun k e => by cases e; exact Nat.le_refl _))
      have HS7 := Lib.hid (Nat.le_trans HS6.out hg7.size)
      have HO7 := Lib.hid hM7.own
      have HLF := Lib.hid (show Below w.heap.size w w7 from HL1.out.trans (HB7.out.mono (Nat.le_of_lt HBW.out)))
      have HX := Lib.hid hx
      clear hx hg7 hM7 HB6 HS6 HM6 HI6
      cases x with
      | false =>
        have HNP := Lib.hid (HNO.out (fun h => by have := HX.out.2 h.2.2; cases this))
        go_wp2_with fail
        go_ret
        exact bend_no HNP.out HLF.out
      | true =>
        have HQ2 := Lib.hid (show ∀ k, (h : k < K.length) → k < j + 1 → liGood wi ((k : Int) + 1) E K[k] from fun k hk hkj => by
          rcases (show k < j ∨ k = j by omega) with h | rfl
          · exact HQ.out k hk h
          · rw [HJ.out]; exact ⟨HLK.out, by have h1 := HYL.out; have h2 := HWI.out; dsimp only; omega, HX.out.1 rfl⟩)
        go_wp2_with fail
        go_roundw
        case rel => exact ⟨j + 1, n7, D7, [], by omega, by go_num, HQ2, HO7, HB7, HS7⟩
        case measure => simp [intOf]; omega
    · have HYY := Lib.hid (show liP kn de wi E K from ⟨HKD.out, fun k hk => HQ.out k hk (by have := HKN.out; omega)⟩)
      have HLF := Lib.hid (show Below w.heap.size w wr from HL1.out.trans (HB.out.mono (Nat.le_of_lt HBW.out)))
      go_wp2_with fail
      go_ret
      exact bend_yes HYY.out HLF.out

end Go.Proofs.Ytecfomaapomncaa.Gat
