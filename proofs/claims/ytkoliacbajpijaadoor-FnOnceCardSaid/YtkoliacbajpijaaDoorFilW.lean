/-
  The walk of fillSlots.
-/
import Derived.Test.YtkoliacbajpijaaDoorTrnW
namespace Go.Proofs.YtkoliacbajpijaaDoor.Whl
open Go.RowKit Go.Maps
set_option linter.unusedVariables false

theorem zero_cells : Tryd.zeroCells72.toList = [.int .i64 0] ++ List.replicate 5 (.int .u64 0) ++ List.replicate 320 (.slice none 0 0) ++ [.map none] := by kernel_rfl
theorem zero_size : Tryd.zeroCells72.size = 327 := by kernel_rfl
theorem zero_busy (i : Nat) (h1 : 1 ≤ i) (h2 : i < 6) : Tryd.zeroCells72[i]? = some (.int .u64 0) := by
  rw [← Array.getElem?_toList, zero_cells, List.append_assoc, List.append_assoc, List.getElem?_append_right (by simpa using h1), List.getElem?_append_left (by simp; omega), List.getElem?_replicate]
  simp
  omega
theorem zero_slot (i : Nat) (h1 : 6 ≤ i) (h2 : i < 326) : Tryd.zeroCells72[i]? = some (.slice none 0 0) := by
  rw [← Array.getElem?_toList, zero_cells, List.getElem?_append_left (by simp only [List.length_append, List.length_replicate, List.length_cons, List.length_nil]; omega), List.getElem?_append_right (by simp only [List.length_append, List.length_replicate, List.length_cons, List.length_nil]; omega), List.getElem?_replicate]
  simp only [List.length_append, List.length_replicate, List.length_cons, List.length_nil]
  rw [if_pos (by omega)]
def putAll (D : DataW Unit) (l : List T) : DataW Unit := l.foldl (fun D t => D.put (.int .i64 t.2) (.lit (.int .i64 t.1))) D
theorem putAll_snoc (D : DataW Unit) (l : List T) (t : T) : putAll D (l ++ [t]) = (putAll D l).put (.int .i64 t.2) (.lit (.int .i64 t.1)) := by simp [putAll]

theorem fill_start (w1 w2 : World) (B : Nat) (now : Int) (h12 : w2 = w1.alloc (.map #[] 0)) (hB : B ≤ w1.heap.size) :
    WstE B (w2.alloc (.cells ((Tryd.zeroCells72.setIfInBounds 0 (.int .i64 now)).setIfInBounds 326 (.map (some w1.heap.size))) 72)) w2.heap.size w1.heap.size now (fun _ _ => []) (fun _ _ => nilV) 0 (.map []) := by
  obtain ⟨A, hA⟩ : ∃ A, A = (Tryd.zeroCells72.setIfInBounds 0 (.int .i64 now)).setIfInBounds 326 (.map (some w1.heap.size)) := ⟨_, rfl⟩
  rw [← hA]
  have hs : w2.heap.size = w1.heap.size + 1 := by rw [h12]; simp
  have hblk : (w2.alloc (.cells A 72)).heap[w2.heap.size]? = some (.cells A 72 (0, 0)) := heap_alloc_new w2 _
  have hget : ∀ i, i ≠ 0 → i ≠ 326 → A[i]? = Tryd.zeroCells72[i]? := fun i h0 h1 => by
    rw [hA, Array.getElem?_setIfInBounds_ne (Ne.symm h1), Array.getElem?_setIfInBounds_ne (Ne.symm h0)]
  refine ⟨fun i => A[i]?, fun _ => false, fun _ => 0, ?_⟩
  constructor
  · exact ⟨by simp, fun i => cell_of_row _ _ i _ 72 (0, 0) hblk, fun i => frozen_of_row _ _ i _ 72 hblk⟩
  · intro i _; rfl
  · show A[0]? = _
    rw [hA, Array.getElem?_setIfInBounds_ne (by omega), Array.getElem?_setIfInBounds_self_of_lt (by rw [zero_size]; omega)]
  · intro l hl
    refine ⟨?_, by omega, fun s _ => by simp⟩
    show A[1 + l]? = _
    rw [hget _ (by omega) (by omega)]
    exact zero_busy _ (by omega) (by omega)
  · intro l s hl hs'
    show A[6 + l * 64 + s]? = _
    rw [hget _ (by omega) (by omega)]
    exact zero_slot _ (by omega) (by omega)
  · intro l s _ _; exact World.ownsRow_nil _ _ _ _
  · intro l s _ _; simp [nilV, Value.ownBlock]
  · intro l s i j _ _ _ _ _ g hg; simp [nilV, Value.ownBlock] at hg
  · show A[326]? = _
    rw [hA, Array.getElem?_setIfInBounds_self_of_lt (by simp)]
  · have := World.ownsMap_made (H := Unit) w1 Tryd.prog 3 (plainElem Tryd.prog 3)
    rw [← h12] at this
    exact this.alloc _
  · omega
  · simp; omega

/-- what fillSlots leaves -/
structure Filled (B : Nat) (w w' : World) (now : Int) (l : List T) (b bm : Nat) (f : Nat → Nat → List T) (v : Nat → Nat → Value) : Prop where
  st : WstE B w' b bm now f v l.length (putAll (.map []) l)
  fit : Fit now f l
  hb : B ≤ b
  hm : B ≤ bm
  below : Below B w w'
def FillEnd (w w' : World) (now : Int) (l : List T) (e : Ending) : Prop := ∃ b bm f v, e = .returned (.pointer (some ⟨b, 0, none⟩)) ∧ Filled w.heap.size w w' now l b bm f v
theorem WOk.liv {now : Int} {l : List T} (h : WOk now l) : Liv now l := ⟨h.n0, h.n1, fun t ht => by have := h.each t ht; unfold tOk at this; omega, h.ids⟩

set_option maxRecDepth 100000 in
set_option maxHeartbeats 1000000 in
theorem fill_walk (w : World) (a : Option Addr) (len cap : Nat) (now : Int) (l : List T) (h : TIs w.heap.size w a len l) (hok : WOk now l) :
    Calls Tryd.prog 43 #[.agg #[.int .i64 now, .slice a len cap]] w fun e w' => FillEnd w w' now l e := by
  have hmm := @run_makeMap Tryd.prog
  have HT := Lib.hid h
  have HL := Lib.hid h.hlen
  have HOK := Lib.hid hok
  have hl60 : len ≤ 60 := by have := h.hlen; have := hok.len; omega
  have hst := fill_start (w.alloc (.cells #[.int .i64 now, .slice a len cap] 26)) ((w.alloc (.cells #[.int .i64 now, .slice a len cap] 26)).alloc (.map #[] 0)) w.heap.size now rfl (by simp)
  have e1 : ((w.alloc (.cells #[.int .i64 now, .slice a len cap] 26)).alloc (.map #[] 0)).heap.size = w.heap.size + 1 + 1 := by simp
  have e2 : (w.alloc (.cells #[.int .i64 now, .slice a len cap] 26)).heap.size = w.heap.size + 1 := by simp
  rw [e1, e2] at hst
  have HST := Lib.hid hst
  have hb0 : ∀ o1 o2 o3, Below w.heap.size w (((w.alloc o1).alloc o2).alloc o3) := fun o1 o2 o3 => (((Below.refl _ _).alloc (Nat.le_refl _) _).alloc (by simp) _).alloc (by simp; omega) _
  have HB0 := Lib.hid hb0
  clear h hok hst e1 e2 hb0
  go_enter Tryd.func43, Tryd.ntmps43
  go_wp2_with fail
  go_loopw [14] (fun i wr => ∃ (k : Nat) (f : Nat → Nat → List T) (v : Nat → Nat → Value), k ≤ len ∧ i = .int .i64 k ∧ Hid (WstE w.heap.size wr (w.heap.size + 1 + 1) (w.heap.size + 1) now f v k (putAll (.map []) (l.take k))) ∧ Hid (Fit now f (l.take k)) ∧ Hid (Below w.heap.size w wr)) (fun i _ => len - (intOf i).toNat)
  case atStart => exact ⟨0, _, _, by omega, rfl, HST, Lib.hid (fun i j _ _ => by simp), Lib.hid (HB0.out _ _ _)⟩
  case round =>
    obtain ⟨k, f, v, hk, rfl, HS, HF, HB⟩ := hrel
    by_cases hlt : (k : Int) < (len : Int)
    · have hkl : k < l.length := by have := HL.out; omega
      obtain ⟨b', off, rfl, hbw, c0, c1⟩ := (HT.out.below HB.out).cell k hkl
      have hmem : l[k] ∈ l := List.getElem_mem hkl
      have hrng := HOK.out.liv.rng l[k] hmem
      have hlv4 := HOK.out.liv.lev4 hmem
      obtain ⟨x, hx⟩ : ∃ x, x = l[k].1 := ⟨_, rfl⟩
      obtain ⟨y, hy⟩ : ∃ y, y = l[k].2 := ⟨_, rfl⟩
      have HXY := Lib.hid (show l[k] = (x, y) by rw [hx, hy])
      rw [← hx] at c0 hrng hlv4
      rw [← hy] at c1 hrng
      clear hx hy hmem
      have HR := Lib.hid hrng
      have HLV := Lib.hid hlv4
      clear hrng hlv4
      have hdb := dig_bd x (lev now x)
      have HSI := Lib.hid (show dig x (lev now x) = ((dig x (lev now x)).toNat : Int) by omega)
      have HSB := Lib.hid (show (dig x (lev now x)).toNat < 64 by omega)
      clear hdb
      have HB1 := Lib.hid (bOne wr (.cells #[.int .i64 x, .int .i64 y] 28))
      have HFL := Lib.hid (show (f (lev now x) (dig x (lev now x)).toNat).length ≤ 1000 by
        have h1 := fit_len HF.out (l := lev now x) (s := (dig x (lev now x)).toNat) (by have := HLV.out; omega) HSB.out
        have h2 := HL.out
        simp only [List.length_take] at h1
        omega)
      go_wp2_with fail
      refine (place_st (HS.out.below HB1.out) x y (lev now x) (dig x (lev now x)).toNat rfl HSI.out (by have := HLV.out; omega) HSB.out HOK.out.n0 HOK.out.n1 (by have := HOK.out.n0; have := HR.out; omega) HR.out.2.1 HR.out.2.2.1 HR.out.2.2.2 HFL.out (by omega)).mono ?_
      rintro e w6 ⟨rfl, v6, h6, hk6⟩
      have HS6 := Lib.hid h6
      have HB6 := Lib.hid (hk6.low (B := w.heap.size) (by omega) (by omega) (fun i j hi hj g hg => (HS.out.vlt hi hj hg).1) (by have := HB.out.size; simp; omega))
      clear h6 hk6 c0 c1
      go_wp2_with fail
      go_roundw
      case rel =>
        refine ⟨k + 1, upd2 f (lev now x) (dig x (lev now x)).toNat (f (lev now x) (dig x (lev now x)).toNat ++ [(x, y)]), v6, by omega, by go_num, Lib.hid ?_, Lib.hid ?_, Lib.hid ((HB.out.alloc HB.out.size _).trans HB6.out)⟩
        · rw [List.take_succ_eq_append_getElem hkl, putAll_snoc, HXY.out]
          exact HS6.out
        · rw [List.take_succ_eq_append_getElem hkl, HXY.out]
          exact fit_place HF.out (x, y) _ _ rfl HSI.out
      case measure => simp [intOf]; omega
    · have hkk : k = l.length := by have := HL.out; omega
      have HS' := HS.out
      have HF' := HF.out
      rw [hkk, List.take_length] at HS' HF'
      have HFI := Lib.hid (show Filled w.heap.size w wr now l (w.heap.size + 1 + 1) (w.heap.size + 1) f v from ⟨HS', HF', by omega, by omega, HB.out⟩)
      clear HS' HF' hkk
      go_wp2_with fail
      go_ret
      exact ⟨_, _, f, v, rfl, HFI.out⟩
end Go.Proofs.YtkoliacbajpijaaDoor.Whl
