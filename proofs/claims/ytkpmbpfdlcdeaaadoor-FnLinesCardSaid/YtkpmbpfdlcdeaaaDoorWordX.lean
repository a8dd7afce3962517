/-
  The walk of the program's Words, second part: the caller of the teller.
-/
import Derived.Test.YtkpmbpfdlcdeaaaDoorShelf
import Derived.Test.YtkpmbpfdlcdeaaaDoorWordW
namespace Go.Proofs.YtkpmbpfdlcdeaaaDoor.Word
open Go.RowKit Go.Shelf Go.Proofs.YtkpmbpfdlcdeaaaDoor.Kit
set_option linter.unusedVariables false
attribute [local go_sem] Oper.semAt_some

theorem clone_any (s : ByteArray) (w : World) (hlim : s.size ≤ 281474976710656) :
    Calls Tryd.prog 32 #[.string s] w fun e w' => e = .returned (.string s) ∧ Below w.heap.size w w' := by
  go_enter Tryd.func32, Tryd.ntmps32
  go_wp2_with fail
  refine (Tryd.stringslite_Clone s _ hlim).mono ?_
  rintro e w1 ⟨rfl, hb1⟩
  go_wp2_with fail
  go_ret
  exact ⟨rfl, hb1⟩

theorem tellWords_any (s : ByteArray) (w : World) :
    Calls Tryd.prog 33 #[.string s] w fun e w' => e = .returned (.func (.func 42) #[] #[.pointer (some ⟨w.heap.size, 0, none⟩)]) ∧ w' = w.alloc (.cells #[.string s] 9) := by
  go_enter Tryd.func33, Tryd.ntmps33
  go_wp2
  go_ret
  exact ⟨rfl, rfl⟩

theorem tell_stops (Bn : Nat) (s : ByteArray) (hs : s.size ≤ 1048576) (w : World) (hBn : Bn < w.heap.size) (hc : w.cell? ⟨Bn, 0, none⟩ = some (.string s)) :
    SeqStopsK Fence.wide 3 Tryd.prog 42 #[.pointer (some ⟨Bn, 0, none⟩)] (fun x : ByteArray => #[Value.string x]) (fun W W' => W'.heap[Bn]? = W.heap[Bn]?) (fun ys => ys = wdsB s) (fun _ => True) (s.size + 1) w := fun l J Jx W hW _ _ hY h0 =>
  tell_in l Bn s hs J Jx hY W ((hW.cell (p := ⟨Bn, 0, none⟩) hBn).trans hc) h0

/-- behind an append to the row in a box: the box, the row, and what else lies -/
theorem appended2 {W w1 : World} {n₀ m0 B Bn : Nat} {t e : TypeId} {size : Nat} {v v' : Value} {k m : Nat} {xs ys : List Value} {tmp : Obj}
    (hv : Boxed W B t v) (hte : t ≠ e) (hrow : W.ownsRow n₀ e size v k xs) (hn₀ : n₀ ≤ W.heap.size) (hm0 : m0 ≤ n₀) (hB : m0 ≤ B) (hBn : Bn < n₀) (hBne : Bn ≠ B)
    (hown' : w1.ownsRow n₀ e size v' m ys) (hgrow : (W.alloc tmp).grownBy w1 v.ownBlock) :
    Boxed w1 B t v ∧ Boxed (w1.setCell ⟨B, 0, none⟩ v') B t v' ∧ (w1.setCell ⟨B, 0, none⟩ v').ownsRow n₀ e size v' m ys ∧ KeepsOthers W (w1.setCell ⟨B, 0, none⟩ v') ∧ Below m0 W (w1.setCell ⟨B, 0, none⟩ v') ∧ (w1.setCell ⟨B, 0, none⟩ v').heap[Bn]? = W.heap[Bn]? := by
  have hv1 : Boxed w1 B t v := (hv.alloc tmp).kept hgrow (hv.not_row hte hrow)
  have hge : ∀ j, v.ownBlock = some j → n₀ ≤ j := fun j ej => (hrow.lt j ej).1
  refine ⟨hv1, hv1.set v', hown'.kept (grownBy_setCell' w1 B v') (.inr (hv1.not_row hte hown').symm), ?_, ?_, ?_⟩
  · refine ((KeepsOthers.alloc W tmp).trans (KeepsOthers.of_grownBy hgrow fun j o ej hj => ?_)).trans (KeepsOthers.setCell _ _ _)
    rcases (hrow.alloc tmp).2 with ⟨rfl, _⟩ | ⟨g, cap, cur, rfl, _, hgb, _⟩
    · simp [Value.ownBlock] at ej
    · obtain rfl : g = j := by simpa [Value.ownBlock] using ej
      rw [hgb] at hj; cases hj; rfl
  · exact (((Below.refl m0 W).alloc (by omega) tmp).grown hgrow (by simp; omega) fun j ej => Nat.le_trans hm0 (hge j ej)).setCell (p := ⟨B, 0, none⟩) hB v'
  · have h1 := (grownBy_setCell' w1 B v').block Bn (by have := hgrow.size; simp at this; omega) (fun e => by cases e; exact hBne rfl)
    have h2 := hgrow.block Bn (by simp; omega) (fun e => by have := hge Bn e.symm; omega)
    exact h1.trans (h2.trans (Below.heap_alloc W tmp Bn (by omega)))
theorem own_weaken {w : World} {B B' : Nat} {e : TypeId} {size : Nat} {v : Value} {n : Nat} {xs : List Value} (h : w.ownsRow B e size v n xs) (hB : B' ≤ B) : w.ownsRow B' e size v n xs :=
  ⟨h.1, h.2.elim .inl (fun ⟨g, cap, cur, h1, h2, h3⟩ => .inr ⟨g, cap, cur, h1, Nat.le_trans hB h2, h3⟩)⟩

set_option maxRecDepth 100000 in
set_option maxHeartbeats 2000000 in
theorem words_in (s : ByteArray) (w : World) (hs : s.size ≤ 1048576) :
    CallsIn Fence.wide 4 Tryd.prog 16 #[.string s] w fun e w' => (∃ v, e = .returned v ∧ w'.ownsRow w.heap.size 9 1 v (wdsB s).length ((wdsB s).map .string)) ∧ Below w.heap.size w w' := by
  obtain ⟨i0, hi, hz0, hz1, hz2⟩ := info_parts infoStr
  refine callsIn_of_wp_marks Tryd.func16 rfl trivial ?_ rfl
  simp only [Tryd.ntmps16, List.size_toArray, List.length_cons, List.length_nil, Nat.reduceAdd, Nat.reduceSub, Array.replicate_succ, Array.replicate_zero, List.push_toArray, List.append_toArray, List.nil_append, List.cons_append]
  gi_wp2
  refine ⟨trivial, ?_⟩
  refine (callsIn_wide.2 (clone_any s _ (by omega))).mono ?_
  rintro e w1 ⟨rfl, hb1⟩
  gi_wp2
  refine ⟨trivial, ?_⟩
  refine (callsIn_wide.2 (tellWords_any s _)).mono ?_
  rintro e w2 ⟨rfl, rfl⟩
  gi_wp2
  have bO : Boxed (w1.alloc (.cells #[.string s] 9)) w.heap.size 28 (.slice none 0 0) := by
    have h1 := Boxed.new w 28 (.slice none 0 0)
    have h2 : Boxed w1 w.heap.size 28 (.slice none 0 0) := (hb1.block w.heap.size (by simp)).trans h1
    exact h2.alloc _
  have bS := Boxed.new w1 9 (.string s)
  have hsz := hb1.size
  simp at hsz
  have hB0 : Below w.heap.size w (w1.alloc (.cells #[.string s] 9)) := (((Below.refl _ w).alloc (Nat.le_refl _) _).trans (hb1.mono (by simp))).alloc (by omega) _
  refine wpIn_rangeFunc_ownG rfl (by omega) (gf := 42) (lb := #[.pointer (some ⟨w1.heap.size, 0, none⟩)]) rfl trivial (enters_of Tryd.func42 (by kernel_rfl) rfl)
    (tell_stops w1.heap.size s hs _ (by simp) bS.cell) (fun h k => k.trans h) (fun W l o o' hl h1 _ _ => World.putObj_heap_other (by simp at hl; omega)) (Below.refl _ _) (fun _ => rfl)
    (fun pre W => (∃ v, Boxed W w.heap.size 28 v ∧ W.ownsRow (w1.heap.size + 1) 9 1 v pre.length (pre.map .string) ∧ True) ∧ (Below w.heap.size w W ∧ Below (w1.heap.size + 1) W W ∧ w1.heap.size + 1 ≤ W.heap.size))
    (fun _ _ _ => False)
    ?own
    (fun _ _ _ _ _ hs _ _ => hs)
    ⟨⟨_, bO, World.ownsRow_nil _ _ _ _, trivial⟩, hB0, Below.refl _ _, by simp⟩
    (fun x => { tmps := #[.string s, undef, .slice none 0 0, .pointer (some ⟨w.heap.size, 0, none⟩), .string x, .string s, .string s, .func (.func 42) #[] #[.pointer (some ⟨w1.heap.size, 0, none⟩)], .string x, undef, undef, undef, undef, undef], defers := [] }) ?assign ?body ?done ?stop
  case own =>
    refine OwnFrom.and (Own.from (holdsRow_own (w1.heap.size + 1) w.heap.size 28 9 1 (fun pre => pre.length) (fun pre : List ByteArray => pre.map .string) (fun _ _ => True)) _) ?_
    intro st W W' row hs hg hr
    refine ⟨ownFrom_below (β := Unit) (w₀ := w) (Nat.le_refl _) (by simp; omega) () W W' row hs.1 hg hr, Below.refl _ _, Nat.le_trans hs.2.2 hg.size⟩
  case assign =>
    intro l x W K hK
    gi_wp2
    exact hK
  case body =>
    rintro l pre x W ⟨⟨v, hv, hrow, -⟩, hB, -, hsW⟩ hlt
    have hc := hv.cell
    have hlt' : pre.length < 1048577 := by omega
    gi_wp2_with (gi_at_builtin; refine wpListIn_append_own _ rfl _ _ 28 rfl (w1.heap.size + 1) 9 i0 _ 1 16 Tryd.underlying28 hi hz0 hz1 hz2 rfl (by decide) _ _ _ rfl (hrow.alloc _) ⟨W.heap.size, 0, none⟩ 1 1 [.string x] rfl rfl (cell_one_new _ _ _) (by simp [Value.oneCell']) (by unfold maxLen; omega) (by omega) (by simp; omega) ?_; intro v' w3 hown' hgrow _; obtain ⟨g', cap', rfl⟩ := ownsRow_succ hown'; obtain ⟨hv1, hv2, hr2, hk2, hb2, hbn⟩ := appended2 (m0 := w.heap.size) (Bn := w1.heap.size) hv (by decide) hrow hsW (by omega) (Nat.le_refl _) (by omega) (by omega) hown' hgrow; have hc1 := hv1.cell; have hf1 := hv1.frozen)
    refine ⟨hk2.from _, hbn, ⟨_, hv2, ?_, trivial⟩, hB.trans hb2, Below.refl _ _, Nat.le_trans hsW hb2.size⟩
    rw [List.map_append, List.length_append]
    exact hr2
  case done =>
    rintro D ys W hD rfl ⟨⟨v, hv, hrow, -⟩, hB, -, hsW⟩ hK
    have hc := hv.cell
    gi_wp2
    refine ⟨by simp, .inl ⟨_, _, rfl, run_takeDeferred hK, ?_⟩⟩
    exact ⟨_, results_tmp rfl _ _ _, ⟨v, rfl, own_weaken (ownsRow_putObj hrow _ hK rfl) (by omega)⟩, hB.trans (belowK_b (w := w) (Nat.le_refl _) W D _ _ (by simp at hD; omega) hK rfl rfl)⟩
  case stop =>
    rintro D c pre W _ _ h _
    exact h.elim

theorem words_any (s : ByteArray) (w : World) (hs : s.size ≤ 1048576) :
    Calls Tryd.prog 16 #[.string s] w fun e w' => (∃ v, e = .returned v ∧ w'.ownsRow w.heap.size 9 1 v (wdsB s).length ((wdsB s).map .string)) ∧ Below w.heap.size w w' :=
  callsIn_wide.1 (words_in s w hs)
end Go.Proofs.YtkpmbpfdlcdeaaaDoor.Word
