/-
  The laws' marks on a row of links without flies: written, and read again.
  Marks in links with what flies on them, in rows of ints: written, and read again.
  A gate that came in, copied.
  A gate compared with its like.
-/
import Derived.Test.YtkndpkingmemoaaGreatDoorMgc
import Derived.Test.YtkndpkingmemoaaGreatDoorMgj
import Derived.Test.YtkndpkingmemoaaGreatDoorMgd
import Derived.Deep.DeepCutAuto
namespace Go.Proofs.YtkndpkingmemoaaGreatDoor.Gat
open Go.RowKit
open Lnk (bOne bAfter IOwn IIs below_keep below_drew')
set_option linter.unusedVariables false

theorem set_same {α : Type} (xs : List α) (i : Nat) (v : α) (h : xs[i]? = some v) : xs.set i v = xs := by
  apply List.ext_getElem?
  intro k
  rw [List.getElem?_set]
  split
  · rename_i e
    subst e
    split
    · exact h.symm
    · rename_i hn
      rw [List.getElem?_eq_none (by omega)]
  · rfl
theorem lown_mark {B : Nat} {w : World} {E : TypeId} {g cap n' : Nat} {l : List Lr} (h : ROwn lrS B w E (.slice (some ⟨g, 0, none⟩) n' cap) l) (k : Nat) (hk : k < l.length) (up : Bool) (ep sq : Int) (v : Value) (hv : l[k].v = v) :
    ROwn lrS B (((w.setCell ⟨g, k * 4, none⟩ (.bool up)).setCell ⟨g, k * 4 + 1, none⟩ (.int .i64 ep)).setCell ⟨g, k * 4 + 2, none⟩ (.int .i64 sq)) E (.slice (some ⟨g, 0, none⟩) n' cap) (l.set k ⟨up, ep, sq, v⟩) ∧ w.grownBy (((w.setCell ⟨g, k * 4, none⟩ (.bool up)).setCell ⟨g, k * 4 + 1, none⟩ (.int .i64 ep)).setCell ⟨g, k * 4 + 2, none⟩ (.int .i64 sq)) (some g) := by
  have hn : n' = l.length := h.is.1
  subst hn
  have h1 := stored_many [.bool up, .int .i64 ep, .int .i64 sq] (k * 4) w _ h
  refine ⟨?_, h1.2⟩
  have h2 := flatF_set lrS l k ⟨up, ep, sq, v⟩ hk
  have h3 : setMany (flatF lrS l) (k * 4) [.bool up, .int .i64 ep, .int .i64 sq] = flatF lrS (l.set k ⟨up, ep, sq, v⟩) := by
    rw [← h2]
    show _ = (setMany (flatF lrS l) (k * 4) [.bool up, .int .i64 ep, .int .i64 sq]).set (k * 4 + 3) v
    rw [set_same]
    have h4 : (flatF lrS l)[k * 4 + 3]? = some v := by
      rw [← hv]
      exact flatF_get lrS l k hk 3 (by decide)
    show ((((flatF lrS l).set (k * 4) (.bool up)).set (k * 4 + 1) (.int .i64 ep)).set (k * 4 + 2) (.int .i64 sq))[k * 4 + 3]? = some v
    rw [List.getElem?_set_ne (by omega), List.getElem?_set_ne (by omega), List.getElem?_set_ne (by omega)]
    exact h4
  unfold ROwn
  rw [List.length_set, ← h3]
  exact h1.1

end Go.Proofs.YtkndpkingmemoaaGreatDoor.Gat
namespace Go.Proofs.YtkndpkingmemoaaGreatDoor.Gat
open Go.RowKit
open Lnk (bOne bAfter IOwn IIs YOwn YIs Y below_keep below_drew' bcell low_after low_alloc grown_of_below mrkY mrkY_len mrkY_get mrkY_step mrkY_mid_len mrkI mrkI_len mrkI_get mrkI_step mrkI_mid_len)
set_option linter.unusedVariables false
set_option linter.unusedSimpArgs false

/-- a row in its place was written, or grew -/
theorem Rws.mod {B : Nat} {w w' : World} {L : List Rw} {s : Rw} (h : Rws B w L) (i : Nat) (hi : i < L.length) (hg : w.grownBy w' L[i].v.ownBlock) (hs : s.At B w') (hat : s.v.ownBlock = L[i].v.ownBlock) : Rws B w' (L.set i s) := by
  have hp := List.pairwise_iff_getElem.1 h.sep
  have key : ∀ k (hk : k < L.length), k ≠ i → Apart L[k].v L[i].v := fun k hk hne => by
    rcases Nat.lt_or_gt_of_ne hne with h1 | h1
    · exact hp k i hk hi h1
    · exact (hp i k hi hk h1).symm
  refine ⟨fun r hr => ?_, ?_⟩
  · obtain ⟨k, hk, rfl⟩ := List.getElem_of_mem hr
    rw [List.length_set] at hk
    rw [List.getElem_set]
    split
    · exact hs
    · rename_i hne
      exact (h.at_ _ (List.getElem_mem hk)).kept hg (key k hk (fun e => hne e.symm))
  · rw [List.pairwise_iff_getElem]
    intro a b ha hb hab
    rw [List.length_set] at ha hb
    rw [List.getElem_set, List.getElem_set]
    have cong : ∀ u : Value, Apart u L[i].v → Apart u s.v := fun u hu => by unfold Apart at *; rw [hat]; exact hu
    split
    · split
      · omega
      · rename_i e1 e2
        exact (cong _ (key b hb (fun e => e2 e.symm))).symm
    · rename_i e1
      split
      · exact cong _ (key a ha (fun e => e1 e.symm))
      · exact hp a b ha hb hab
/-- is it a type of the rows of a gate -/
def rowTy (T : TypeId) : Bool := T == 39 || T == 82 || T == 3 || T == 95
theorem Rw.At.ne_box {B : Nat} {w : World} {r : Rw} {k : Nat} {T : TypeId} {l : List Value} (h : r.At B w) (hr : rowTy r.E = true) (hb : Box w k T l) (hT : rowTy T = false) : some k ≠ r.v.ownBlock := by
  have hne : r.E ≠ T := fun e => by rw [e, hT] at hr; cases hr
  rcases h.2 with ⟨e, _⟩ | ⟨g, c, cur, e, _, hg, _⟩
  · rw [e]; simp [Value.ownBlock]
  · rw [e]
    intro e2
    simp only [Value.ownBlock, Option.some.injEq] at e2
    subst e2
    have h1 : w.heap[k]? = some (.cells l.toArray T) := hb
    rw [hg] at h1
    simp only [Option.some.injEq, Obj.cells.injEq] at h1
    exact hne h1.2.1
/-- all boxes of other types stay as they were -/
def Keep4 (w w' : World) : Prop := w.heap.size ≤ w'.heap.size ∧ ∀ (k : Nat) (T : TypeId) (l : List Value), rowTy T = false → Box w k T l → Box w' k T l
theorem Keep4.refl (w : World) : Keep4 w w := ⟨Nat.le_refl _, fun _ _ _ _ h => h⟩
theorem Keep4.trans {a b c : World} (h : Keep4 a b) (h2 : Keep4 b c) : Keep4 a c := ⟨Nat.le_trans h.1 h2.1, fun k T l hT hb => h2.2 k T l hT (h.2 k T l hT hb)⟩
theorem Keep4.below {w w' : World} (hb : Below w.heap.size w w') : Keep4 w w' := ⟨hb.size, fun k T l _ h => h.below hb⟩
theorem Keep4.row {B : Nat} {w w' : World} {r : Rw} (h : r.At B w) (hr : rowTy r.E = true) (hg : w.grownBy w' r.v.ownBlock) : Keep4 w w' := ⟨hg.size, fun k T l hT hb => hb.grown hg (h.ne_box hr hb hT)⟩
theorem Keep4.box {w w' : World} {k : Nat} {T : TypeId} {l : List Value} (h : Keep4 w w') (hb : Box w k T l) (hT : rowTy T = false) : Box w' k T l := h.2 k T l hT hb
/-- a link as the marks from q on leave it -/
def mkK1 (q : Int) (k : Lk) : Lk := ⟨q % 3 == 0, q + 1, q + 2, mrkY (q + 3) k.l.length⟩
def mkQ1 (q : Int) (k : Lk) : Int := q + 3 + 3 * (k.l.length : Int)
def mkQ : Int → List Lk → Int
  | q, [] => q
  | q, k :: K => mkQ (mkQ1 q k) K
def mkK : Int → List Lk → List Lk
  | _, [] => []
  | q, k :: K => mkK1 q k :: mkK (mkQ1 q k) K
theorem mkK_len : ∀ (K : List Lk) (q : Int), (mkK q K).length = K.length
  | [], _ => rfl
  | k :: K, q => by rw [mkK, List.length_cons, mkK_len K, List.length_cons]
theorem mkQ_snoc : ∀ (K : List Lk) (q : Int) (k : Lk), mkQ q (K ++ [k]) = mkQ1 (mkQ q K) k
  | [], _, _ => rfl
  | k' :: K, q, k => by simp only [List.cons_append, mkQ]; exact mkQ_snoc K _ k
theorem mkK_snoc : ∀ (K : List Lk) (q : Int) (k : Lk), mkK q (K ++ [k]) = mkK q K ++ [mkK1 (mkQ q K) k]
  | [], _, _ => rfl
  | k' :: K, q, k => by simp only [List.cons_append, mkK, mkQ]; rw [mkK_snoc K _ k]
theorem take_K {K : List Lk} {j : Nat} (h : j < K.length) : K.take (j + 1) = K.take j ++ [K[j]] := List.take_succ_eq_append_getElem h
theorem mkQ_take (K : List Lk) (q : Int) (j : Nat) (h : j < K.length) : mkQ q (K.take (j + 1)) = mkQ q (K.take j) + 3 + 3 * (K[j].l.length : Int) := by rw [take_K h, mkQ_snoc]; rfl
theorem mkK_get : ∀ (K : List Lk) (q : Int) (j : Nat) (h : j < (mkK q K).length) (h' : j < K.length), (mkK q K)[j] = mkK1 (mkQ q (K.take j)) K[j]
  | k :: K, q, 0, _, _ => rfl
  | k :: K, q, j + 1, h, h' => by
    simp only [mkK, List.getElem_cons_succ, List.take_succ_cons, mkQ]
    exact mkK_get K _ j (by simpa [mkK] using h) (by simpa using h')
theorem mkQ_lo : ∀ (K : List Lk) (q : Int), q ≤ mkQ q K
  | [], q => Int.le_refl _
  | k :: K, q => by
    have h1 := mkQ_lo K (mkQ1 q k)
    have h2 : q ≤ mkQ1 q k := by unfold mkQ1; omega
    show q ≤ mkQ (mkQ1 q k) K
    omega
theorem mkQ_hi (n : Nat) : ∀ (K : List Lk) (q : Int), (∀ k ∈ K, k.l.length ≤ n) → mkQ q K ≤ q + (K.length : Int) * (3 + 3 * (n : Int))
  | [], q, _ => by simp [mkQ]
  | k :: K, q, h => by
    have h1 := mkQ_hi n K (mkQ1 q k) (fun k' hk' => h k' (by simp [hk']))
    have h2 := h k (by simp)
    unfold mkQ
    have e : (((k :: K).length : Nat) : Int) * (3 + 3 * (n : Int)) = (K.length : Int) * (3 + 3 * (n : Int)) + (3 + 3 * (n : Int)) := by rw [List.length_cons]; push_cast; rw [Int.add_mul, Int.one_mul]
    rw [e]
    have h3 : mkQ1 q k ≤ q + (3 + 3 * (n : Int)) := by unfold mkQ1; omega
    omega
theorem mkQ_bd {K : List Lk} {q : Int} {j : Nat} (hk : ∀ k ∈ K, k.l.length ≤ 1048576) (hn : K.length ≤ 1048576) (hq1 : q ≤ 100000000) : mkQ q (K.take j) ≤ 10000000000000 := by
  have h1 := mkQ_hi 1048576 (K.take j) q (fun k hk' => hk k (List.mem_of_mem_take hk'))
  have h2 : (K.take j).length ≤ 1048576 := by have := List.length_take_le j K; rw [List.length_take]; omega
  have h3 : ((K.take j).length : Int) * (3 + 3 * ((1048576 : Nat) : Int)) ≤ 1048576 * (3 + 3 * ((1048576 : Nat) : Int)) := Int.mul_le_mul_of_nonneg_right (by omega) (by omega)
  omega
/-- links, the first of which are marked -/
def mkM (q : Int) (K : List Lk) (j : Nat) : List Lk := mkK q (K.take j) ++ K.drop j
theorem mkM_zero (q : Int) (K : List Lk) : mkM q K 0 = K := by simp [mkM, mkK]
theorem mkM_all (q : Int) (K : List Lk) : mkM q K K.length = mkK q K := by simp [mkM]
theorem mkM_len (q : Int) (K : List Lk) (j : Nat) (h : j ≤ K.length) : (mkM q K j).length = K.length := by simp [mkM, mkK_len]; omega
theorem mkM_at (q : Int) (K : List Lk) (j : Nat) (h : j < K.length) (h' : j < (mkM q K j).length) : (mkM q K j)[j] = K[j] := by
  have e : (mkK q (K.take j)).length = j := by rw [mkK_len, List.length_take]; omega
  have h2 : ∀ (M : List Lk) (hM : j < M.length), M = mkK q (K.take j) ++ K.drop j → M[j] = K[j] := fun M hM e2 => by
    subst e2
    rw [List.getElem_append_right (by omega)]
    simp [e]
  exact h2 _ h' rfl
theorem mkM_step (q : Int) (K : List Lk) (j : Nat) (h : j < K.length) : (mkM q K j).set j (mkK1 (mkQ q (K.take j)) K[j]) = mkM q K (j + 1) := by
  unfold mkM
  have e : (mkK q (K.take j)).length = j := by rw [mkK_len, List.length_take]; omega
  rw [List.set_append, if_neg (by omega), e, Nat.sub_self, List.drop_eq_getElem_cons h, List.set_cons_zero, take_K h, mkK_snoc, List.append_assoc]
  rfl
theorem set_get_self {α : Type} (l : List α) (j : Nat) (h : j < l.length) : l.set j l[j] = l := by simp
theorem rawOf_setK (K : List Lk) (vs : List Value) (j : Nat) (hv : j < vs.length) (k : Lk) : rawOf (K.set j k) vs = (rawOf K vs).set j ⟨k.up, k.ep, k.sq, vs[j]⟩ := by
  rw [rawOf_set, set_get_self vs j hv]
theorem flRs_setK (K : List Lk) (vs : List Value) (j : Nat) (hv : j < vs.length) (k : Lk) : flRs (K.set j k) vs = (flRs K vs).set j (flR vs[j] k.l) := by
  rw [flRs_set, set_get_self vs j hv]

set_option maxRecDepth 100000 in
set_option maxHeartbeats 400000 in
theorem markFlyG_any (w : World) (B : Nat) (a : Option Addr) (len cap : Nat) (l : List Y) (h : YOwn B w 95 (.slice a len cap) l) (q : Int) (hlen : len ≤ 2000000) (hq0 : 0 ≤ q) (hq1 : q ≤ 100000000000000) :
    Calls Tryz.prog 129 #[.slice a len cap, .int .i64 q] w fun e w' => e = .returned (.int .i64 (q + 3 * (len : Int))) ∧ YOwn B w' 95 (.slice a len cap) (mrkY q len) ∧ w.grownBy w' (Value.slice a len cap).ownBlock := by
  have hnl := h.is.1
  by_cases h0 : len = 0
  · subst h0
    have hl : l = [] := List.length_eq_zero_iff.1 hnl.symm
    subst hl
    have H := Lib.hid h
    clear h hnl
    go_enter Tryz.func129, Tryz.ntmps129
    go_wp2
    go_loopw [1, 5] (fun k i wr => k = .int .i64 q ∧ i = .int .i64 0 ∧ wr = w) (fun _ i _ => 0)
    case atStart => exact ⟨rfl, rfl, rfl⟩
    case round =>
      obtain ⟨rfl, rfl, rfl⟩ := hrel
      go_wp2
      go_ret
      exact ⟨by simp, H.out, World.grownBy.refl _ _⟩
  · obtain ⟨g, rfl⟩ : ∃ g, a = some ⟨g, 0, none⟩ := by
      rcases h.2 with ⟨e, h1⟩ | ⟨g, c, cur, e, _⟩
      · omega
      · simp only [Value.slice.injEq] at e
        exact ⟨g, e.1⟩
    have H := Lib.hid h
    have HL := Lib.hid hnl
    clear h hnl
    go_enter Tryz.func129, Tryz.ntmps129
    go_wp2
    go_loopw [1, 5] (fun k i wr => ∃ j : Nat, j ≤ len ∧ k = .int .i64 (q + 3 * (j : Int)) ∧ i = .int .i64 j ∧ Hid (YOwn B wr 95 (.slice (some ⟨g, 0, none⟩) len cap) (mrkY q j ++ l.drop j)) ∧ Hid (w.grownBy wr (some g))) (fun _ i _ => len - (intOf i).toNat)
    case atStart => exact ⟨0, by omega, by go_num, rfl, Lib.hid (by simpa [mrkY] using H.out), Lib.hid (World.grownBy.refl _ _)⟩
    case round =>
      obtain ⟨j, hj, rfl, rfl, HO, HG⟩ := hrel
      by_cases hlt : (j : Int) < (len : Int)
      · have hjl : j < l.length := by have := HL.out; omega
        have hm : j < (mrkY q j ++ l.drop j).length := by rw [mrkY_mid_len q l j (by omega)]; exact hjl
        obtain ⟨⟨c0, c1, c2⟩, f0, f1, f2⟩ := HO.out.cellAt j hm
        obtain ⟨z0, hz0⟩ : ∃ z, z = (mrkY q j ++ l.drop j)[j].1 := ⟨_, rfl⟩
        obtain ⟨z1, hz1⟩ : ∃ z, z = (mrkY q j ++ l.drop j)[j].2.1 := ⟨_, rfl⟩
        obtain ⟨z2, hz2⟩ : ∃ z, z = (mrkY q j ++ l.drop j)[j].2.2 := ⟨_, rfl⟩
        rw [← hz0] at c0
        rw [← hz1] at c1
        rw [← hz2] at c2
        have hst := HO.out.set j hm (q + 3 * (j : Int)) (q + 3 * (j : Int) + 1) (q + 3 * (j : Int) + 2)
        rw [mrkY_step q l j hjl] at hst
        have hw1 : IntKind.i64.wrap (q + 3 * (j : Int) + 1 + 1) = q + 3 * (j : Int) + 2 := by rw [IntWalk.i64_in _ (by omega)]; omega
        have HS := Lib.hid hst
        clear hst hm hz0 hz1 hz2
        go_wp2_with fail
        go_roundw
        case rel => exact ⟨j + 1, by omega, by go_num, by go_num, Lib.hid HS.out.1, Lib.hid (HG.out.trans HS.out.2)⟩
        case measure => simp [intOf]; omega
      · have hjl : j = len := by omega
        subst hjl
        have HO' := Lib.hid (show YOwn B wr 95 (.slice (some ⟨g, 0, none⟩) j cap) (mrkY q j) by
          have h1 := HO.out
          rw [List.drop_eq_nil_of_le (by have := HL.out; omega), List.append_nil] at h1
          exact h1)
        clear HO
        go_wp2
        go_ret
        exact ⟨rfl, HO'.out, HG.out⟩
set_option maxRecDepth 100000 in
set_option maxHeartbeats 400000 in
theorem heldFlyG_any (w : World) (B : Nat) (a : Option Addr) (len cap : Nat) (q : Int) (h : YIs B w a len (mrkY q len)) (hlen : len ≤ 2000000) (hq0 : 0 ≤ q) (hq1 : q ≤ 100000000000000) :
    Calls Tryz.prog 130 #[.slice a len cap, .int .i64 q] w fun e w' => e = .returned (.int .i64 (q + 3 * (len : Int))) ∧ w = w' := by
  have H := Lib.hid h
  clear h
  go_enter Tryz.func130, Tryz.ntmps130
  go_wp2
  go_loop [1, 5] (fun k i => ∃ j : Nat, j ≤ len ∧ k = .int .i64 (q + 3 * (j : Int)) ∧ i = .int .i64 j) (fun _ i => len - (intOf i).toNat)
  case atStart => exact ⟨0, by omega, by go_num, rfl⟩
  case round =>
    obtain ⟨j, hj, rfl, rfl⟩ := hrel
    by_cases hlt : (j : Int) < (len : Int)
    · have hjl : j < (mrkY q len).length := by rw [mrkY_len]; omega
      obtain ⟨b, off, rfl, hb, c0, c1, c2⟩ := H.out.cell j hjl
      rw [mrkY_get] at c0 c1 c2
      simp only at c0 c1 c2
      have hw1 : IntKind.i64.wrap (q + 3 * (j : Int) + 1 + 1) = q + 3 * (j : Int) + 2 := by rw [IntWalk.i64_in _ (by omega)]; omega
      go_wp2_with fail
      go_round
      case rel => exact ⟨j + 1, by omega, by go_num, by go_num⟩
      case measure => simp [intOf]; omega
    · have hjl : j = len := by omega
      subst hjl
      go_wp2
      go_ret
      exact ⟨rfl, rfl⟩
set_option maxRecDepth 100000 in
set_option maxHeartbeats 400000 in
theorem markIntG_any (w : World) (B : Nat) (a : Option Addr) (len cap : Nat) (l : List Int) (q : Int) (h : IOwn B w (.slice a len cap) l) (hlen : len ≤ 2000000) (hq0 : 0 ≤ q) (hq1 : q ≤ 100000000000000) :
    Calls Tryz.prog 83 #[.slice a len cap, .int .i64 q] w fun e w' => e = .returned (.int .i64 (q + (len : Int))) ∧ IOwn B w' (.slice a len cap) (mrkI q len) ∧ w.grownBy w' (Value.slice a len cap).ownBlock := by
  have hnl := h.lit.1
  by_cases h0 : len = 0
  · subst h0
    have hl : l = [] := List.length_eq_zero_iff.1 hnl.symm
    subst hl
    have H := Lib.hid h
    clear h hnl
    go_enter Tryz.func83, Tryz.ntmps83
    go_wp2
    go_loopw [1, 5] (fun k i wr => k = .int .i64 q ∧ i = .int .i64 0 ∧ wr = w) (fun _ i _ => 0)
    case atStart => exact ⟨rfl, rfl, rfl⟩
    case round =>
      obtain ⟨rfl, rfl, rfl⟩ := hrel
      go_wp2
      go_ret
      exact ⟨by simp, H.out, World.grownBy.refl _ _⟩
  · obtain ⟨g, rfl⟩ : ∃ g, a = some ⟨g, 0, none⟩ := by
      rcases h.2 with ⟨e, h1⟩ | ⟨g, c, cur, e, _⟩
      · omega
      · simp only [Value.slice.injEq] at e
        exact ⟨g, e.1⟩
    have H := Lib.hid h
    have HL := Lib.hid hnl
    clear h hnl
    go_enter Tryz.func83, Tryz.ntmps83
    go_wp2
    go_loopw [1, 5] (fun k i wr => ∃ j : Nat, j ≤ len ∧ k = .int .i64 (q + (j : Int)) ∧ i = .int .i64 j ∧ Hid (IOwn B wr (.slice (some ⟨g, 0, none⟩) len cap) (mrkI q j ++ l.drop j)) ∧ Hid (w.grownBy wr (some g))) (fun _ i _ => len - (intOf i).toNat)
    case atStart => exact ⟨0, by omega, by go_num, rfl, Lib.hid (by simpa [mrkI] using H.out), Lib.hid (World.grownBy.refl _ _)⟩
    case round =>
      obtain ⟨j, hj, rfl, rfl, HO, HG⟩ := hrel
      by_cases hlt : (j : Int) < (len : Int)
      · have hjl : j < l.length := by have := HL.out; omega
        have hm : j < (mrkI q j ++ l.drop j).length := by rw [mrkI_mid_len q l j (by omega)]; exact hjl
        obtain ⟨c0, f0⟩ := HO.out.cellAt j hm
        obtain ⟨z0, hz0⟩ : ∃ z, z = (mrkI q j ++ l.drop j)[j] := ⟨_, rfl⟩
        rw [← hz0] at c0
        have hst := HO.out.set j hm (q + (j : Int))
        rw [mrkI_step q l j hjl] at hst
        have HS := Lib.hid hst
        clear hst hm hz0
        go_wp2_with fail
        go_roundw
        case rel => exact ⟨j + 1, by omega, by go_num, by go_num, Lib.hid HS.out.1, Lib.hid (HG.out.trans HS.out.2)⟩
        case measure => simp [intOf]; omega
      · have hjl : j = len := by omega
        subst hjl
        have HO' := Lib.hid (show IOwn B wr (.slice (some ⟨g, 0, none⟩) j cap) (mrkI q j) by
          have h1 := HO.out
          rw [List.drop_eq_nil_of_le (by have := HL.out; omega), List.append_nil] at h1
          exact h1)
        clear HO
        go_wp2
        go_ret
        exact ⟨rfl, HO'.out, HG.out⟩
set_option maxRecDepth 100000 in
set_option maxHeartbeats 400000 in
theorem heldIntG_any (w : World) (B : Nat) (a : Option Addr) (len cap : Nat) (q : Int) (h : IIs B w a len (mrkI q len)) (hlen : len ≤ 2000000) (hq0 : 0 ≤ q) (hq1 : q ≤ 100000000000000) :
    Calls Tryz.prog 86 #[.slice a len cap, .int .i64 q] w fun e w' => e = .returned (.int .i64 (q + (len : Int))) ∧ w = w' := by
  have H := Lib.hid h
  clear h
  go_enter Tryz.func86, Tryz.ntmps86
  go_wp2
  go_loop [1, 5] (fun k i => ∃ j : Nat, j ≤ len ∧ k = .int .i64 (q + (j : Int)) ∧ i = .int .i64 j) (fun _ i => len - (intOf i).toNat)
  case atStart => exact ⟨0, by omega, by go_num, rfl⟩
  case round =>
    obtain ⟨j, hj, rfl, rfl⟩ := hrel
    by_cases hlt : (j : Int) < (len : Int)
    · have hjl : j < (mrkI q len).length := by rw [mrkI_len]; omega
      obtain ⟨b, off, rfl, hb, c0⟩ := H.out.cell j hjl
      rw [mrkI_get] at c0
      go_wp2_with fail
      go_round
      case rel => exact ⟨j + 1, by omega, by go_num, by go_num⟩
      case measure => simp [intOf]; omega
    · have hjl : j = len := by omega
      subst hjl
      go_wp2
      go_ret
      exact ⟨rfl, rfl⟩
set_option maxRecDepth 100000 in
set_option maxHeartbeats 4000000 in
theorem markLinkG_any (w : World) (B : Nat) (a : Option Addr) (len cap : Nat) (K : List Lk) (vs : List Value) (L : List Rw) (q : Int) (h : Rws B w (lrR (.slice a len cap) (rawOf K vs) :: (flRs K vs ++ L))) (hB : B ≤ w.heap.size) (hv : vs.length = K.length) (hk : ∀ k ∈ K, k.l.length ≤ 1048576) (hn : K.length ≤ 1048576) (hq0 : 0 ≤ q) (hq1 : q ≤ 100000000) :
    Calls Tryz.prog 82 #[.slice a len cap, .int .i64 q] w fun e w' => e = .returned (.int .i64 (mkQ q K)) ∧ Rws B w' (lrR (.slice a len cap) (rawOf (mkK q K) vs) :: (flRs (mkK q K) vs ++ L)) ∧ Below B w w' ∧ Keep4 w w' := by
  have ho : ROwn lrS B w 82 (.slice a len cap) (rawOf K vs) := h.head
  have hnl : len = K.length := by
    have h1 := ho.is.1
    rw [rawOf_len hv] at h1
    exact h1
  have hshape : len = 0 ∨ ∃ g, a = some ⟨g, 0, none⟩ := by
    rcases ho.2 with ⟨e, h1⟩ | ⟨g, c, cur, e, _⟩
    · rw [rawOf_len hv] at h1; exact .inl (by omega)
    · simp only [Value.slice.injEq] at e
      exact .inr ⟨g, e.1⟩
  have HR := Lib.hid h
  have HV := Lib.hid hv
  have HK := Lib.hid hk
  have HN := Lib.hid hn
  have HL := Lib.hid hnl
  have HS := Lib.hid hshape
  have hlb : len ≤ 1048576 := by omega
  clear h ho hv hk hn hnl hshape
  go_enter Tryz.func82, Tryz.ntmps82
  go_wp2
  go_loopw [1, 5] (fun k i wr => ∃ j : Nat, j ≤ len ∧ k = .int .i64 (mkQ q (K.take j)) ∧ i = .int .i64 j ∧ Hid (Rws B wr (lrR (.slice a len cap) (rawOf (mkM q K j) vs) :: (flRs (mkM q K j) vs ++ L))) ∧ Hid (Below B w wr ∧ Keep4 w wr)) (fun _ i _ => len - (intOf i).toNat)
  case atStart => exact ⟨0, by omega, rfl, rfl, Lib.hid (by rw [mkM_zero]; exact HR.out), Lib.hid ⟨Below.refl _ _, Keep4.refl _⟩⟩
  case round =>
    obtain ⟨j, hj, rfl, rfl, HO, HG⟩ := hrel
    by_cases hlt : (j : Int) < (len : Int)
    · have hjK : j < K.length := by have := HL.out; omega
      have hjv : j < vs.length := by rw [HV.out]; exact hjK
      obtain ⟨g, rfl⟩ : ∃ g, a = some ⟨g, 0, none⟩ := by
        rcases HS.out with h1 | h1
        · omega
        · exact h1
      have hmK : j < (mkM q K j).length := by rw [mkM_len q K j (by omega)]; exact hjK
      have hmr : j < (rawOf (mkM q K j) vs).length := by rw [rawOf_len (by rw [HV.out, mkM_len q K j (by omega)])]; exact hmK
      have hmf : j < (flRs (mkM q K j) vs).length := by rw [flRs_len (by rw [HV.out, mkM_len q K j (by omega)])]; exact hmK
      have hro : ROwn lrS B wr 82 (.slice (some ⟨g, 0, none⟩) len cap) (rawOf (mkM q K j) vs) := HO.out.head
      have hr := rawOf_get j hmr hmK hjv
      have hf : YOwn B wr 95 vs[j] K[j].l := by
        have h1 := HO.out.at_ (flRs (mkM q K j) vs)[j] (by simp)
        rw [flRs_get j hmf hmK hjv, mkM_at q K j hjK hmK] at h1
        exact h1
      obtain ⟨fa, fc, hvj⟩ := hf.shape
      obtain ⟨fl, hfl⟩ : ∃ n, n = K[j].l.length := ⟨_, rfl⟩
      have hfb : fl ≤ 1048576 := by rw [hfl]; exact HK.out _ (List.getElem_mem _)
      obtain ⟨⟨up0, ep0, sq0, v0, hrow, c0, c1, c2, c3⟩, f0, f1, f2, f3⟩ := lown_at hro j hmr
      have hv0 : v0 = .slice fa fl fc := by
        rw [hr] at hrow
        simp only [Lr.mk.injEq] at hrow
        rw [← hrow.2.2.2, hvj, hfl]
      subst hv0
      obtain ⟨k, hk⟩ : ∃ k : Int, k = mkQ q (K.take j) := ⟨_, rfl⟩
      rw [← hk]
      have hk0 : 0 ≤ k := by rw [hk]; have := mkQ_lo (K.take j) q; omega
      have hk1 : k ≤ 10000000000000 := by rw [hk]; exact mkQ_bd HK.out HN.out hq1
      have hwr : IntKind.i64.wrap (k.tmod 3) = k.tmod 3 := by
        have h3 : k.tmod 3 = k % 3 := Int.tmod_eq_emod_of_nonneg hk0
        rw [h3]
        exact IntWalk.i64_in _ (by omega)
      have hst := lown_mark hro j hmr (k % 3 == 0) (k + 1) (k + 2) (.slice fa fl fc) (by rw [hrow])
      have hw1 : IntKind.i64.wrap (k + 1) = k + 1 := IntWalk.i64_in _ (by omega)
      have hw2 : IntKind.i64.wrap (k + 1 + 1) = k + 2 := by
        rw [show k + 1 + 1 = k + 2 by omega]
        exact IntWalk.i64_in _ (by omega)
      have hw3 : IntKind.i64.wrap (k + 2 + 1) = k + 3 := by
        rw [show k + 2 + 1 = k + 3 by omega]
        exact IntWalk.i64_in _ (by omega)
      have HVJ := Lib.hid (show vs[j] = .slice fa fl fc by rw [hvj, hfl])
      obtain ⟨w1, hw⟩ : ∃ V, V = (((wr.setCell ⟨g, j * 4, none⟩ (.bool (k % 3 == 0))).setCell ⟨g, j * 4 + 1, none⟩ (.int .i64 (k + 1))).setCell ⟨g, j * 4 + 2, none⟩ (.int .i64 (k + 2))) := ⟨_, rfl⟩
      rw [← hw] at hst
      have hr1 := HO.out.mod (s := lrR (.slice (some ⟨g, 0, none⟩) len cap) ((rawOf (mkM q K j) vs).set j ⟨k % 3 == 0, k + 1, k + 2, .slice fa fl fc⟩)) 0 (by simp) hst.2 hst.1 rfl
      have HR1 := Lib.hid (show Rws B w1 (lrR (.slice (some ⟨g, 0, none⟩) len cap) ((rawOf (mkM q K j) vs).set j ⟨k % 3 == 0, k + 1, k + 2, .slice fa fl fc⟩) :: (flRs (mkM q K j) vs ++ L)) from hr1)
      have HG1 := Lib.hid (show Below B w w1 ∧ Keep4 w w1 from ⟨HG.out.1.grown hst.2 (Nat.le_trans hB HG.out.1.size) (fun q' e => by cases e; exact (World.ownsRow.lt hro g rfl).1), HG.out.2.trans (Keep4.row HO.out.head rfl hst.2)⟩)
      have hf1 : YOwn B w1 95 (.slice fa fl fc) K[j].l := by
        have h1 := HR1.out.at_ (flRs (mkM q K j) vs)[j] (by simp)
        rw [flRs_get j hmf hmK hjv, mkM_at q K j hjK hmK, HVJ.out] at h1
        exact h1
      have HF1 := Lib.hid hf1
      have HW := Lib.hid hw
      have HKK := Lib.hid hk
      have HFL := Lib.hid hfl
      have HJ := Lib.hid (And.intro hmK (And.intro hmr hmf))
      clear hst hr hrow hk hro hf hvj hr1 hf1 hw hfl HO HG hmK hmr hmf
      go_wp2_with fail
      rw [← HW.out]
      refine (markFlyG_any _ B fa fl fc _ HF1.out (k + 3) (by omega) (by omega) (by omega)).mono ?_
      rintro e w2 ⟨rfl, ho2, hg2⟩
      have hHJ := HJ.out
      have e1 : (lrR (.slice (some ⟨g, 0, none⟩) len cap) ((rawOf (mkM q K j) vs).set j ⟨k % 3 == 0, k + 1, k + 2, .slice fa fl fc⟩) :: (flRs (mkM q K j) vs ++ L))[j + 1]'(by simp; omega) = flR (.slice fa fl fc) K[j].l := by
        rw [List.getElem_cons_succ, List.getElem_append_left hHJ.2.2, flRs_get j hHJ.2.2 hHJ.1 hjv, mkM_at q K j hjK hHJ.1, HVJ.out]
      have hr2 := HR1.out.mod (s := flR (.slice fa fl fc) (mrkY (k + 3) fl)) (w' := w2) (j + 1) (by simp; omega) (by rw [e1]; exact hg2) ho2 (by rw [e1]; rfl)
      have hk1' : mkK1 (mkQ q (K.take j)) K[j] = ⟨k % 3 == 0, k + 1, k + 2, mrkY (k + 3) fl⟩ := by rw [← HKK.out, HFL.out]; rfl
      have hr3 : Rws B w2 (lrR (.slice (some ⟨g, 0, none⟩) len cap) (rawOf (mkM q K (j + 1)) vs) :: (flRs (mkM q K (j + 1)) vs ++ L)) := by
        rw [← mkM_step q K j hjK, hk1', rawOf_setK _ vs j hjv, flRs_setK _ vs j hjv, HVJ.out, ← List.set_append_left _ _ hHJ.2.2]
        exact hr2
      have HR3 := Lib.hid hr3
      have HG3 := Lib.hid (show Below B w w2 ∧ Keep4 w w2 from ⟨HG1.out.1.grown hg2 (Nat.le_trans hB HG1.out.1.size) (fun q' e => (World.ownsRow.lt HF1.out q' e).1), HG1.out.2.trans (Keep4.row (r := flR (.slice fa fl fc) K[j].l) HF1.out rfl hg2)⟩)
      clear hr2 hr3 e1 hk1' hg2 ho2 hHJ
      go_wp2_with fail
      go_roundw
      case rel => exact ⟨j + 1, by omega, by rw [mkQ_take K q j hjK, ← HKK.out, ← HFL.out], by go_num, HR3, HG3⟩
      case measure => simp [intOf]; omega
    · have hjl : j = K.length := by have := HL.out; omega
      have HO' := Lib.hid (show Rws B wr (lrR (.slice a len cap) (rawOf (mkK q K) vs) :: (flRs (mkK q K) vs ++ L)) by
        have h1 := HO.out
        rw [hjl, mkM_all] at h1
        exact h1)
      have HQ := Lib.hid (show mkQ q (K.take j) = mkQ q K by rw [hjl, List.take_length])
      clear HO hjl
      go_wp2
      go_ret
      exact ⟨by rw [HQ.out]; rfl, HO'.out, HG.out⟩

set_option maxRecDepth 100000 in
set_option maxHeartbeats 4000000 in
theorem heldLinkG_any (w : World) (B : Nat) (a : Option Addr) (len cap : Nat) (K : List Lk) (q : Int) (h : LIs B w a len (mkK q K)) (hk : ∀ k ∈ K, k.l.length ≤ 1048576) (hn : K.length ≤ 1048576) (hq0 : 0 ≤ q) (hq1 : q ≤ 100000000) :
    Calls Tryz.prog 85 #[.slice a len cap, .int .i64 q] w fun e w' => e = .returned (.int .i64 (mkQ q K)) ∧ w = w' := by
  have hnl : len = K.length := by have h1 := h.hlen; rw [mkK_len] at h1; omega
  have HT := Lib.hid h
  have HK := Lib.hid hk
  have HN := Lib.hid hn
  have HL := Lib.hid hnl
  have hlb : len ≤ 1048576 := by omega
  clear h hk hn hnl
  go_enter Tryz.func85, Tryz.ntmps85
  go_wp2
  go_loop [1, 5] (fun k i => ∃ j : Nat, j ≤ len ∧ k = .int .i64 (mkQ q (K.take j)) ∧ i = .int .i64 j) (fun _ i => len - (intOf i).toNat)
  case atStart => exact ⟨0, by omega, rfl, rfl⟩
  case round =>
    obtain ⟨j, hj, rfl, rfl⟩ := hrel
    by_cases hlt : (j : Int) < (len : Int)
    · have hjK : j < K.length := by have := HL.out; omega
      have hjm : j < (mkK q K).length := by rw [mkK_len]; exact hjK
      obtain ⟨b, off, up, ep, sq, y, fa, fl, fc, rfl, hb, hlj, hy, c0, c1, c2, c3⟩ := HT.out.at j hjm
      obtain ⟨k, hk⟩ : ∃ k : Int, k = mkQ q (K.take j) := ⟨_, rfl⟩
      rw [mkK_get K q j hjm hjK, ← hk] at hlj
      simp only [mkK1, Lk.mk.injEq] at hlj
      obtain ⟨rfl, rfl, rfl, rfl⟩ := hlj
      rw [← hk]
      have hk0 : 0 ≤ k := by rw [hk]; have := mkQ_lo (K.take j) q; omega
      have hk1 : k ≤ 10000000000000 := by rw [hk]; exact mkQ_bd HK.out HN.out hq1
      have hwr : IntKind.i64.wrap (k.tmod 3) = k.tmod 3 := by
        have h3 : k.tmod 3 = k % 3 := Int.tmod_eq_emod_of_nonneg hk0
        rw [h3]
        exact IntWalk.i64_in _ (by omega)
      have hw1 : IntKind.i64.wrap (k + 1) = k + 1 := IntWalk.i64_in _ (by omega)
      have hw2 : IntKind.i64.wrap (k + 1 + 1) = k + 2 := by
        rw [show k + 1 + 1 = k + 2 by omega]
        exact IntWalk.i64_in _ (by omega)
      have hw3 : IntKind.i64.wrap (k + 2 + 1) = k + 3 := by
        rw [show k + 2 + 1 = k + 3 by omega]
        exact IntWalk.i64_in _ (by omega)
      have hbb : ((k % 3 == 0) != (k % 3 == 0)) = false := by simp
      have hfl : fl = K[j].l.length := by have h1 := hy.hlen; rw [mrkY_len] at h1; omega
      have hfb : fl ≤ 1048576 := by rw [hfl]; exact HK.out _ (List.getElem_mem _)
      rw [← hfl] at hy
      have HY := Lib.hid hy
      have HKK := Lib.hid hk
      have HFL := Lib.hid hfl
      have hkn : ¬ k + 3 + 3 * (fl : Int) < 0 := by omega
      clear hy hk hfl hjm
      go_wp2_with fail
      refine (heldFlyG_any _ B fa fl fc (k + 3) HY.out (by omega) (by omega) (by omega)).mono ?_
      rintro e w2 ⟨rfl, rfl⟩
      go_wp2_with fail
      go_round
      case rel => exact ⟨j + 1, by omega, by rw [mkQ_take K q j hjK, ← HKK.out, ← HFL.out], by go_num⟩
      case measure => simp [intOf]; omega
    · have hjl : j = K.length := by have := HL.out; omega
      have HQ := Lib.hid (show mkQ q (K.take j) = mkQ q K by rw [hjl, List.take_length])
      clear hjl
      go_wp2
      go_ret
      exact ⟨by rw [HQ.out]; rfl, rfl⟩

end Go.Proofs.YtkndpkingmemoaaGreatDoor.Gat
namespace Go.Proofs.YtkndpkingmemoaaGreatDoor.Gat
open Go.RowKit
open Lnk (bOne bAfter IOwn IIs below_keep below_drew' bcell low_after low_alloc)
set_option linter.unusedVariables false

end Go.Proofs.YtkndpkingmemoaaGreatDoor.Gat
namespace Go.Proofs.YtkndpkingmemoaaGreatDoor.Gat
open Go.RowKit
open Lnk (bOne bAfter IOwn IIs below_keep below_drew' bcell low_after low_alloc)
set_option linter.unusedVariables false

theorem eqPolicy_same (b c j t : Int) (w : World) :
    Calls Tryz.prog 125 #[.agg #[.int .i64 b, .int .i64 c, .int .i64 j, .int .i64 t], .agg #[.int .i64 b, .int .i64 c, .int .i64 j, .int .i64 t]] w fun e w' => e = .returned (.bool true) ∧ Below w.heap.size w w' := by
  go_enter Tryz.func125, Tryz.ntmps125
  go_wp2
  go_ret
  exact ⟨rfl, ((Below.refl _ _).alloc (Nat.le_refl _) _).alloc (by simp) _⟩

set_option maxRecDepth 100000 in
set_option maxHeartbeats 2000000 in
theorem eqConfig_same (de qu wi ti qa bu le pb pc pj pt : Int) (w : World) :
    Calls Tryz.prog 77 #[.agg #[.int .i64 de, .int .i64 qu, .int .i64 wi, .int .i64 ti, .int .i64 qa, .int .i64 bu, .int .i64 le, .int .i64 pb, .int .i64 pc, .int .i64 pj, .int .i64 pt], .agg #[.int .i64 de, .int .i64 qu, .int .i64 wi, .int .i64 ti, .int .i64 qa, .int .i64 bu, .int .i64 le, .int .i64 pb, .int .i64 pc, .int .i64 pj, .int .i64 pt]] w fun e w' => e = .returned (.bool true) ∧ Below w.heap.size w w' := by
  go_enter Tryz.func77, Tryz.ntmps77
  go_wp2_with fail
  refine (eqPolicy_same pb pc pj pt _).mono ?_
  rintro e w1 ⟨rfl, hb1⟩
  have HL : Hid (Below w.heap.size w w1) := Lib.hid ((((Below.refl _ _).alloc (Nat.le_refl _) _).alloc (by simp) _).trans (hb1.mono (by simp; omega)))
  clear hb1
  go_wp2_with fail
  go_ret
  exact ⟨rfl, HL.out⟩

set_option maxRecDepth 100000 in
set_option maxHeartbeats 4000000 in
theorem eqGate_same (w : World) (de qu wi ti qa bu le pb pc pj pt nw la : Int) (ea1 : Option Addr) (en ec1 : Nat) (ka1 : Option Addr) (kn kc1 : Nat) (tu : Int) (fa1 : Option Addr) (fn fc1 : Nat) (ra1 : Option Addr) (rn rc1 : Nat) (tk ac dr : Int) (ea2 : Option Addr) (ec2 : Nat) (ka2 : Option Addr) (kc2 : Nat) (fa2 : Option Addr) (fc2 : Nat) (ra2 : Option Addr) (rc2 : Nat) (E : List Ev) (K : List Lk) (F R : List Int) (h1 : GIs w.heap.size w ea1 en ka1 kn fa1 fn ra1 rn E K F R) (h2 : GIs w.heap.size w ea2 en ka2 kn fa2 fn ra2 rn E K F R) (hf : fn ≤ 2000000) (hr : rn ≤ 2000000) :
    Calls Tryz.prog 27 #[.agg #[.int .i64 de, .int .i64 qu, .int .i64 wi, .int .i64 ti, .int .i64 qa, .int .i64 bu, .int .i64 le, .int .i64 pb, .int .i64 pc, .int .i64 pj, .int .i64 pt, .int .i64 nw, .int .i64 la, .slice ea1 en ec1, .slice ka1 kn kc1, .int .i64 tu, .slice fa1 fn fc1, .slice ra1 rn rc1, .int .i64 tk, .int .i64 ac, .int .i64 dr], .agg #[.int .i64 de, .int .i64 qu, .int .i64 wi, .int .i64 ti, .int .i64 qa, .int .i64 bu, .int .i64 le, .int .i64 pb, .int .i64 pc, .int .i64 pj, .int .i64 pt, .int .i64 nw, .int .i64 la, .slice ea2 en ec2, .slice ka2 kn kc2, .int .i64 tu, .slice fa2 fn fc2, .slice ra2 rn rc2, .int .i64 tk, .int .i64 ac, .int .i64 dr]] w fun e w' => e = .returned (.bool true) ∧ Below w.heap.size w w' := by
  obtain ⟨W0, hW0⟩ : ∃ W, W = (w.alloc (.cells #[.int .i64 de, .int .i64 qu, .int .i64 wi, .int .i64 ti, .int .i64 qa, .int .i64 bu, .int .i64 le, .int .i64 pb, .int .i64 pc, .int .i64 pj, .int .i64 pt, .int .i64 nw, .int .i64 la, .slice ea1 en ec1, .slice ka1 kn kc1, .int .i64 tu, .slice fa1 fn fc1, .slice ra1 rn rc1, .int .i64 tk, .int .i64 ac, .int .i64 dr] 32)).alloc (.cells #[.int .i64 de, .int .i64 qu, .int .i64 wi, .int .i64 ti, .int .i64 qa, .int .i64 bu, .int .i64 le, .int .i64 pb, .int .i64 pc, .int .i64 pj, .int .i64 pt, .int .i64 nw, .int .i64 la, .slice ea2 en ec2, .slice ka2 kn kc2, .int .i64 tu, .slice fa2 fn fc2, .slice ra2 rn rc2, .int .i64 tk, .int .i64 ac, .int .i64 dr] 32) := ⟨_, rfl⟩
  have hb01 := bOne w (.cells #[.int .i64 de, .int .i64 qu, .int .i64 wi, .int .i64 ti, .int .i64 qa, .int .i64 bu, .int .i64 le, .int .i64 pb, .int .i64 pc, .int .i64 pj, .int .i64 pt, .int .i64 nw, .int .i64 la, .slice ea1 en ec1, .slice ka1 kn kc1, .int .i64 tu, .slice fa1 fn fc1, .slice ra1 rn rc1, .int .i64 tk, .int .i64 ac, .int .i64 dr] 32)
  have hb02 := bOne (w.alloc (.cells #[.int .i64 de, .int .i64 qu, .int .i64 wi, .int .i64 ti, .int .i64 qa, .int .i64 bu, .int .i64 le, .int .i64 pb, .int .i64 pc, .int .i64 pj, .int .i64 pt, .int .i64 nw, .int .i64 la, .slice ea1 en ec1, .slice ka1 kn kc1, .int .i64 tu, .slice fa1 fn fc1, .slice ra1 rn rc1, .int .i64 tk, .int .i64 ac, .int .i64 dr] 32)) (.cells #[.int .i64 de, .int .i64 qu, .int .i64 wi, .int .i64 ti, .int .i64 qa, .int .i64 bu, .int .i64 le, .int .i64 pb, .int .i64 pc, .int .i64 pj, .int .i64 pt, .int .i64 nw, .int .i64 la, .slice ea2 en ec2, .slice ka2 kn kc2, .int .i64 tu, .slice fa2 fn fc2, .slice ra2 rn rc2, .int .i64 tk, .int .i64 ac, .int .i64 dr] 32)
  have HA0 : Hid (Box W0 (w.heap.size) 32 [.int .i64 de, .int .i64 qu, .int .i64 wi, .int .i64 ti, .int .i64 qa, .int .i64 bu, .int .i64 le, .int .i64 pb, .int .i64 pc, .int .i64 pj, .int .i64 pt, .int .i64 nw, .int .i64 la, .slice ea1 en ec1, .slice ka1 kn kc1, .int .i64 tu, .slice fa1 fn fc1, .slice ra1 rn rc1, .int .i64 tk, .int .i64 ac, .int .i64 dr]) := Lib.hid (by
    rw [hW0]
    exact (Box.new w [.int .i64 de, .int .i64 qu, .int .i64 wi, .int .i64 ti, .int .i64 qa, .int .i64 bu, .int .i64 le, .int .i64 pb, .int .i64 pc, .int .i64 pj, .int .i64 pt, .int .i64 nw, .int .i64 la, .slice ea1 en ec1, .slice ka1 kn kc1, .int .i64 tu, .slice fa1 fn fc1, .slice ra1 rn rc1, .int .i64 tk, .int .i64 ac, .int .i64 dr] 32).below hb02)
  have HB0 : Hid (Box W0 (w.heap.size + 1) 32 [.int .i64 de, .int .i64 qu, .int .i64 wi, .int .i64 ti, .int .i64 qa, .int .i64 bu, .int .i64 le, .int .i64 pb, .int .i64 pc, .int .i64 pj, .int .i64 pt, .int .i64 nw, .int .i64 la, .slice ea2 en ec2, .slice ka2 kn kc2, .int .i64 tu, .slice fa2 fn fc2, .slice ra2 rn rc2, .int .i64 tk, .int .i64 ac, .int .i64 dr]) := Lib.hid (by
    rw [hW0]
    have := Box.new (w.alloc (.cells #[.int .i64 de, .int .i64 qu, .int .i64 wi, .int .i64 ti, .int .i64 qa, .int .i64 bu, .int .i64 le, .int .i64 pb, .int .i64 pc, .int .i64 pj, .int .i64 pt, .int .i64 nw, .int .i64 la, .slice ea1 en ec1, .slice ka1 kn kc1, .int .i64 tu, .slice fa1 fn fc1, .slice ra1 rn rc1, .int .i64 tk, .int .i64 ac, .int .i64 dr] 32)) [.int .i64 de, .int .i64 qu, .int .i64 wi, .int .i64 ti, .int .i64 qa, .int .i64 bu, .int .i64 le, .int .i64 pb, .int .i64 pc, .int .i64 pj, .int .i64 pt, .int .i64 nw, .int .i64 la, .slice ea2 en ec2, .slice ka2 kn kc2, .int .i64 tu, .slice fa2 fn fc2, .slice ra2 rn rc2, .int .i64 tk, .int .i64 ac, .int .i64 dr] 32
    simpa using this)
  have HL0 : Hid (Below w.heap.size w W0) := Lib.hid (by rw [hW0]; exact hb01.trans (hb02.mono (by simp)))
  have HWE := Lib.hid hW0
  have H1 := Lib.hid h1
  have H2 := Lib.hid h2
  clear hW0 hb01 hb02 h1 h2
  go_enter Tryz.func27, Tryz.ntmps27
  go_wp2_with fail
  rw [← HWE.out]
  refine (eqConfig_same de qu wi ti qa bu le pb pc pj pt _).mono ?_
  rintro e w1 ⟨rfl, hb⟩
  have HA1 := Lib.hid (HA0.out.below hb)
  have HB1 := Lib.hid (HB0.out.below hb)
  have HLc := Lib.hid (low_after HL0.out hb)
  clear hb
  have c11 := HA1.out.cell 11 _ rfl
  have d11 := HB1.out.cell 11 _ rfl
  have c12 := HA1.out.cell 12 _ rfl
  have d12 := HB1.out.cell 12 _ rfl
  have c13 := HA1.out.cell 13 _ rfl
  have d13 := HB1.out.cell 13 _ rfl
  go_wp2_with fail
  refine (eqEventS_yes _ _ ea1 ea2 en ec1 ec2 E (H1.out.ev.here HLc.out) (H2.out.ev.here HLc.out) (Nat.le_refl _)).mono ?_
  rintro e w2 ⟨rfl, hb⟩
  have HA2 := Lib.hid (HA1.out.below hb)
  have HB2 := Lib.hid (HB1.out.below hb)
  have HL1 := Lib.hid (low_after HLc.out hb)
  clear hb
  clear c11 d11 c12 d12 c13 d13
  have c14 := HA2.out.cell 14 _ rfl
  have d14 := HB2.out.cell 14 _ rfl
  go_wp2_with fail
  refine (eqLinkS_yes _ _ ka1 ka2 kn kc1 kc2 K (H1.out.lk.here HL1.out) (H2.out.lk.here HL1.out) (Nat.le_refl _)).mono ?_
  rintro e w3 ⟨rfl, hb⟩
  have HA3 := Lib.hid (HA2.out.below hb)
  have HB3 := Lib.hid (HB2.out.below hb)
  have HL2 := Lib.hid (low_after HL1.out hb)
  clear hb
  clear c14 d14
  have c15 := HA3.out.cell 15 _ rfl
  have d15 := HB3.out.cell 15 _ rfl
  have c16 := HA3.out.cell 16 _ rfl
  have d16 := HB3.out.cell 16 _ rfl
  go_wp2_with fail
  refine (Lnk.eqIntS_yes _ _ fa1 fa2 fn fc1 fc2 F (H1.out.lf.here HL2.out) (H2.out.lf.here HL2.out) hf (Nat.le_refl _)).mono ?_
  rintro e w4 ⟨rfl, hb⟩
  have HA4 := Lib.hid (HA3.out.below hb)
  have HB4 := Lib.hid (HB3.out.below hb)
  have HL3 := Lib.hid (low_after HL2.out hb)
  clear hb
  clear c15 d15 c16 d16
  have c17 := HA4.out.cell 17 _ rfl
  have d17 := HB4.out.cell 17 _ rfl
  go_wp2_with fail
  refine (Lnk.eqIntS_yes _ _ ra1 ra2 rn rc1 rc2 R (H1.out.lt.here HL3.out) (H2.out.lt.here HL3.out) hr (Nat.le_refl _)).mono ?_
  rintro e w5 ⟨rfl, hb⟩
  have HA5 := Lib.hid (HA4.out.below hb)
  have HB5 := Lib.hid (HB4.out.below hb)
  have HL4 := Lib.hid (low_after HL3.out hb)
  clear hb
  clear c17 d17
  have c18 := HA5.out.cell 18 _ rfl
  have d18 := HB5.out.cell 18 _ rfl
  have c19 := HA5.out.cell 19 _ rfl
  have d19 := HB5.out.cell 19 _ rfl
  have c20 := HA5.out.cell 20 _ rfl
  have d20 := HB5.out.cell 20 _ rfl
  go_wp2_with fail
  go_ret
  exact ⟨rfl, HL4.out⟩
end Go.Proofs.YtkndpkingmemoaaGreatDoor.Gat
