/-
  Plain facts for the law on sums: what a changed byte, and two neighbours that change places, do to the sum. And a row of bytes made of a text. No program in sight.
-/
import Derived.Test.YtgbdmpfojiihnaaDoorCheckA
import Derived.Test.YtgbdmpfojiihnaaDoorDrawA
import Derived.Laws.IdiomStrings
namespace Go.Proofs.YtgbdmpfojiihnaaDoor.Ck
open Go.RowKit Go.Proofs.YtgbdmpfojiihnaaDoor.Kit
set_option linter.unusedVariables false

theorem step_lt (p : Nat × Nat) (c : UInt8) : (ckStep p c).1 < 255 ∧ (ckStep p c).2 < 255 := ⟨Nat.mod_lt _ (by decide), Nat.mod_lt _ (by decide)⟩
theorem step_inj (p q : Nat × Nat) (c : UInt8) (hp : p.1 < 255 ∧ p.2 < 255) (hq : q.1 < 255 ∧ q.2 < 255) (h : ckStep p c = ckStep q c) : p = q := by
  obtain ⟨a, b⟩ := p
  obtain ⟨a', b'⟩ := q
  unfold ckStep at h
  simp only [Prod.mk.injEq] at h hp hq ⊢
  have hc := c.toNat_lt
  obtain ⟨h1, h2⟩ := h
  obtain rfl : a = a' := by omega
  refine ⟨rfl, ?_⟩
  omega
theorem fold_inj (t : List UInt8) : ∀ p q : Nat × Nat, p.1 < 255 ∧ p.2 < 255 → q.1 < 255 ∧ q.2 < 255 → t.foldl ckStep p = t.foldl ckStep q → p = q := by
  induction t with
  | nil => intro p q _ _ h; exact h
  | cons c t ih => intro p q hp hq h; exact step_inj p q c hp hq (ih _ _ (step_lt p c) (step_lt q c) h)
theorem ckVal_inj (l m : List UInt8) : ckVal l = ckVal m ↔ ck l = ck m := by
  have h1 := ck_lt l
  have h2 := ck_lt m
  unfold ckVal
  constructor
  · intro h
    apply Prod.ext <;> omega
  · intro h; rw [h]
theorem ckVal_bd (l : List UInt8) : 0 ≤ ckVal l ∧ ckVal l ≤ 65535 := by
  have h1 := ck_lt l
  unfold ckVal
  omega
theorem ck_app (p t : List UInt8) : ck (p ++ t) = t.foldl ckStep (ck p) := by unfold ck; rw [List.foldl_append]
theorem tmod_zero (x : Int) : Int.tmod x 255 = 0 ↔ x % 255 = 0 := by
  rw [← Int.dvd_iff_tmod_eq_zero]; omega
theorem put_iff (p t : List UInt8) (c u : UInt8) : ckVal (p ++ u :: t) = ckVal (p ++ c :: t) ↔ Int.tmod ((u.toNat : Int) - (c.toNat : Int)) 255 = 0 := by
  have hu := u.toNat_lt
  have hc := c.toNat_lt
  have hp := ck_lt p
  rw [ckVal_inj, tmod_zero, ck_app, ck_app, List.foldl_cons, List.foldl_cons]
  constructor
  · intro h
    have h2 := fold_inj t _ _ (step_lt _ u) (step_lt _ c) h
    unfold ckStep at h2
    simp only [Prod.mk.injEq] at h2
    omega
  · intro h
    have h2 : ckStep (ck p) u = ckStep (ck p) c := by
      unfold ckStep
      have : ((ck p).1 + u.toNat) % 255 = ((ck p).1 + c.toNat) % 255 := by omega
      rw [this]
    rw [h2]
theorem swap_iff (p t : List UInt8) (x y : UInt8) : ckVal (p ++ y :: x :: t) = ckVal (p ++ x :: y :: t) ↔ Int.tmod ((x.toNat : Int) - (y.toNat : Int)) 255 = 0 := by
  have hu := x.toNat_lt
  have hc := y.toNat_lt
  have hp := ck_lt p
  rw [ckVal_inj, tmod_zero, ck_app, ck_app, List.foldl_cons, List.foldl_cons, List.foldl_cons, List.foldl_cons]
  constructor
  · intro h
    have h2 := fold_inj t _ _ (step_lt _ x) (step_lt _ y) h
    unfold ckStep at h2
    simp only [Prod.mk.injEq] at h2
    omega
  · intro h
    have h2 : ckStep (ckStep (ck p) y) x = ckStep (ckStep (ck p) x) y := by
      unfold ckStep
      simp only [Prod.mk.injEq]
      omega
    rw [h2]
theorem split_at (l : List UInt8) (k : Nat) (h : k < l.length) : l = l.take k ++ l[k] :: l.drop (k + 1) := by
  rw [← List.drop_eq_getElem_cons h, List.take_append_drop]
theorem set_at (l : List UInt8) (k : Nat) (h : k < l.length) (u : UInt8) : l.set k u = l.take k ++ u :: l.drop (k + 1) := by
  rw [List.set_eq_take_append_cons_drop, if_pos h]
/-- a byte changed -/
theorem put_law (l : List UInt8) (k : Nat) (h : k < l.length) (u : UInt8) : ckVal (l.set k u) = ckVal l ↔ Int.tmod ((u.toNat : Int) - (l[k].toNat : Int)) 255 = 0 := by
  have := put_iff (l.take k) (l.drop (k + 1)) l[k] u
  rw [← set_at l k h u, ← split_at l k h] at this
  exact this
theorem split_two (l : List UInt8) (k : Nat) (h : k + 1 < l.length) : l = l.take k ++ l[k] :: l[k + 1] :: l.drop (k + 2) := by
  have h1 := split_at l k (by omega)
  rw [List.drop_eq_getElem_cons h] at h1
  exact h1
theorem swap_at (l : List UInt8) (k : Nat) (h : k + 1 < l.length) : (l.set k l[k + 1]).set (k + 1) l[k] = l.take k ++ l[k + 1] :: l[k] :: l.drop (k + 2) := by
  apply List.ext_getElem?
  intro j
  have hkl : (l.take k).length = k := by rw [List.length_take]; omega
  by_cases h1 : j < k
  · rw [List.getElem?_append_left (by rw [hkl]; exact h1), List.getElem?_set_ne (by omega), List.getElem?_set_ne (by omega), List.getElem?_take_of_lt h1]
  · rw [List.getElem?_append_right (by omega), hkl]
    by_cases h2 : j = k
    · subst h2
      rw [List.getElem?_set_ne (by omega), List.getElem?_set_self (by omega)]; simp
    · by_cases h3 : j = k + 1
      · subst h3
        rw [List.getElem?_set_self (by rw [List.length_set]; exact h)]; simp
      · rw [List.getElem?_set_ne (by omega), List.getElem?_set_ne (by omega)]
        obtain ⟨d, rfl⟩ : ∃ d, j = k + 2 + d := ⟨j - (k + 2), by omega⟩
        rw [show k + 2 + d - k = d + 1 + 1 by omega, List.getElem?_cons_succ, List.getElem?_cons_succ, List.getElem?_drop]
/-- two neighbours that change places -/
theorem swap_law (l : List UInt8) (k : Nat) (h : k + 1 < l.length) : ckVal ((l.set k l[k + 1]).set (k + 1) l[k]) = ckVal l ↔ Int.tmod ((l[k].toNat : Int) - (l[k + 1].toNat : Int)) 255 = 0 := by
  have := swap_iff (l.take k) (l.drop (k + 2)) l[k] l[k + 1]
  rw [← swap_at l k h, ← split_two l k h] at this
  exact this

/-- A row of bytes in a block of its own, with room behind it or none. -/
def BRow (w : World) (g : Nat) (l : List UInt8) : Prop :=
  ∃ (C : Array Value) (T : TypeId) (f0 f1 : Nat), w.heap[g]? = some (.cells C T (f0, f1)) ∧ l.length ≤ f0 ∧ l.length ≤ C.size ∧ ∀ j (h : j < l.length), C[j]? = some (.int .u8 (l[j].toNat : Int))
theorem BRow.cell {w : World} {g : Nat} {l : List UInt8} (h : BRow w g l) (j : Nat) (hj : j < l.length) : w.cell? ⟨g, j, none⟩ = some (.int .u8 (l[j].toNat : Int)) := by
  obtain ⟨C, T, f0, f1, hb, _, _, hc⟩ := h
  unfold World.cell?
  simp only [hb]
  exact hc j hj
theorem BRow.frozen {w : World} {g : Nat} {l : List UInt8} (h : BRow w g l) (j : Nat) (hj : j < l.length) : w.frozen? ⟨g, j, none⟩ = false := by
  obtain ⟨C, T, f0, f1, hb, hf, _, hc⟩ := h
  unfold World.frozen?
  simp only [hb]
  simp
  omega
theorem BRow.set {w : World} {g : Nat} {l : List UInt8} (h : BRow w g l) (k : Nat) (hk : k < l.length) (u : UInt8) (x : Int) (hx : x = (u.toNat : Int)) : BRow (w.setCell ⟨g, k, none⟩ (.int .u8 x)) g (l.set k u) := by
  subst hx
  obtain ⟨C, T, f0, f1, hb, hf, hs, hc⟩ := h
  refine ⟨C.setIfInBounds k (.int .u8 (u.toNat : Int)), T, f0, f1, ?_, by simpa using hf, by simpa using hs, ?_⟩
  · unfold World.setCell
    rw [Array.getElem?_modify]
    simp [hb]
  · intro j hj
    simp at hj
    rw [Array.getElem?_setIfInBounds, List.getElem_set]
    by_cases e : k = j
    · subst e
      rw [if_pos rfl, if_pos (by omega), if_pos rfl]
    · rw [if_neg e, if_neg e]
      exact hc j hj
theorem brow_new (w : World) (s : ByteArray) (e : TypeId) (cap : Nat) (f1 : Nat) : BRow (w.alloc (.cells (bytesRow s cap) e ((bytesRow s cap).size, f1))) w.heap.size s.data.toList := by
  have hs : s.data.toList.length ≤ (bytesRow s cap).size := by unfold bytesRow; simp
  refine ⟨bytesRow s cap, e, (bytesRow s cap).size, f1, ?_, hs, hs, ?_⟩
  · show (w.heap.push _)[w.heap.size]? = _
    simp
  · intro j hj
    unfold bytesRow
    have hj' : j < (s.data.map (fun b => Value.int .u8 b.toNat)).size := by simpa using hj
    rw [Array.getElem?_append_left hj']
    simp at hj
    simp [hj]
end Go.Proofs.YtgbdmpfojiihnaaDoor.Ck
