/-
  Rows of texts, and the marks that the exact laws write into them. No program in sight.
-/
import Derived.Test.YtgbdmpfojiihnaaDoorDecA
import Derived.Test.YtgbdmpfojiihnaaDoorKit
import Derived.RangeFuncBox
namespace Go.Proofs.YtgbdmpfojiihnaaDoor.Kit
open Go.RowKit
set_option linter.unusedVariables false

/-- the mark of number k -/
def mkt (k : Nat) : ByteArray := ⟨(109 :: Dec.dd k).toArray⟩
/-- the marks from k on, n of them -/
def marks (k n : Nat) : List ByteArray := (List.range n).map fun j => mkt (k + j)
theorem marks_len (k n : Nat) : (marks k n).length = n := by simp [marks]
theorem marks_get (k n j : Nat) (h : j < (marks k n).length) : (marks k n)[j] = mkt (k + j) := by simp [marks]

/-- A row of texts: its cells, if it has any, lie at the head of a block. -/
def SRow (w : World) (ad : Option Addr) (l : List ByteArray) : Prop := ∀ j (h : j < l.length), ∃ g, ad = some ⟨g, 0, none⟩ ∧ g < w.heap.size ∧ w.cell? ⟨g, j, none⟩ = some (.string l[j])

theorem srow_of_own {w : World} {B : Nat} {e : TypeId} {v : Value} {n : Nat} {l : List ByteArray} (h : w.ownsRow B e 1 v n (l.map .string)) : n = l.length ∧ ∃ ad cap, v = .slice ad n cap ∧ SRow w ad l := by
  have hlen : l.length = n := by have := h.1; simpa using this
  refine ⟨hlen.symm, ?_⟩
  rcases h.2 with ⟨rfl, h0⟩ | ⟨g, cap, cur, rfl, h1, h2, h3, h4, h5, h6⟩
  · subst h0; exact ⟨none, 0, rfl, fun j hj => by omega⟩
  · refine ⟨some ⟨g, 0, none⟩, cap, rfl, fun j hj => ⟨g, rfl, lt_of_block h2, ?_⟩⟩
    rw [h.cellAt j (by omega), List.getElem?_map, List.getElem?_eq_getElem hj]; rfl

theorem SRow.grown {w w' : World} {ad : Option Addr} {l : List ByteArray} {r : Option Nat} (h : SRow w ad l) (hg : w.grownBy w' r) (hr : ∀ g, ad = some ⟨g, 0, none⟩ → some g ≠ r) : SRow w' ad l := by
  intro j hj
  obtain ⟨g, e, hlt, hc⟩ := h j hj
  exact ⟨g, e, Nat.lt_of_lt_of_le hlt hg.size, hg.cell hc (hr g e)⟩
theorem grown_none {w w' : World} (h : w.grownBy w' none) (r : Option Nat) : w.grownBy w' r := ⟨h.os, h.tape, h.output, h.size, fun k hk _ => h.block k hk (by simp)⟩
theorem grown_of_below {w w' : World} (h : Below w.heap.size w w') (r : Option Nat) : w.grownBy w' r := ⟨h.os, h.tape, h.output, h.size, fun k hk _ => h.block k hk⟩
theorem below_of_none {w w' : World} (h : w.grownBy w' none) : Below w.heap.size w w' := ⟨h.os, h.tape, h.output, h.size, fun k hk => h.block k hk (by simp)⟩
theorem grownTrans {w w1 w2 : World} {r : Option Nat} (h : w.grownBy w1 r) (k : w1.grownBy w2 r) : w.grownBy w2 r :=
  ⟨k.os.trans h.os, k.tape.trans h.tape, k.output.trans h.output, Nat.le_trans h.size k.size, fun j hj hne => (k.block j (Nat.lt_of_lt_of_le hj h.size) hne).trans (h.block j hj hne)⟩
theorem grownRefl (w : World) (r : Option Nat) : w.grownBy w r := ⟨rfl, rfl, rfl, Nat.le_refl _, fun _ _ _ => rfl⟩
/-- one mark more -/
theorem marks_set (k n j : Nat) (xs : List Value) (hx : xs.length = n) (h : j < n) :
    (((marks k j).map Value.string) ++ xs.drop j).set j (.string (mkt (k + j))) = ((marks k (j + 1)).map Value.string) ++ xs.drop (j + 1) := by
  have e : (marks k (j + 1)).map Value.string = (marks k j).map Value.string ++ [.string (mkt (k + j))] := by
    simp [marks, List.range_succ]
  rw [e, List.set_append_right _ _ (by simp [marks]), List.append_assoc]
  congr 1
  rw [show j - ((marks k j).map Value.string).length = 0 by simp [marks], List.drop_eq_getElem_cons (by omega)]
  rfl
theorem own_kept_none {w w' : World} {B : Nat} {e : TypeId} {size : Nat} {v : Value} {n : Nat} {xs : List Value} (h : w.ownsRow B e size v n xs) (hg : w.grownBy w' none) : w'.ownsRow B e size v n xs :=
  h.kept hg (by cases hv : v.ownBlock with
    | none => exact .inl rfl
    | some k => exact .inr (by simp))
theorem srow_keep {w1 w w' : World} {ad : Option Addr} {l : List ByteArray} {r : Option Nat} (h1 : SRow w1 ad l) (h : SRow w ad l) (hg : w.grownBy w' r) (hr : ∀ g, g < w1.heap.size → some g ≠ r) : SRow w' ad l := by
  intro j hj
  obtain ⟨g, e, hlt, hc⟩ := h j hj
  obtain ⟨g', e', hlt', _⟩ := h1 j hj
  rw [e] at e'
  cases e'
  exact ⟨g, e, Nat.lt_of_lt_of_le hlt hg.size, hg.cell hc (hr g hlt')⟩
/-- the same, the row's value written out -/
theorem row_of {n : Nat} {l : List ByteArray} {P : Program} {f : FuncId} {args : Array Value} {w : World} {B : Nat} {e0 : TypeId} (hn : n = l.length)
    (h : Calls P f args w fun e w' => (∃ v, e = .returned v ∧ w'.ownsRow B e0 1 v n (l.map .string)) ∧ Below w.heap.size w w') :
    Calls P f args w fun e w' => (∃ ad cap, e = .returned (.slice ad n cap) ∧ w'.ownsRow B e0 1 (.slice ad n cap) n (l.map .string) ∧ SRow w' ad l) ∧ Below w.heap.size w w' := by
  refine h.mono ?_
  rintro e w' ⟨⟨v, rfl, hown⟩, hb⟩
  obtain ⟨-, ad, cap, rfl, hr⟩ := srow_of_own hown
  exact ⟨⟨ad, cap, rfl, hown, hr⟩, hb⟩
theorem srow_marks {w : World} {B k n cap : Nat} {e : TypeId} {ad : Option Addr} (h : w.ownsRow B e 1 (.slice ad n cap) n ((marks k n).map .string)) : SRow w ad (marks k n) := by
  obtain ⟨-, ad', cap', hv, hr⟩ := srow_of_own h
  simp only [Value.slice.injEq, true_and] at hv
  obtain ⟨rfl, rfl⟩ := hv
  exact hr
theorem own_ge {w : World} {B n cap : Nat} {e : TypeId} {ad : Option Addr} {xs : List Value} (h : w.ownsRow B e 1 (.slice ad n cap) n xs) : ∀ k, (Value.slice ad n cap).ownBlock = some k → B ≤ k := fun k hk => (h.lt k hk).1
end Go.Proofs.YtgbdmpfojiihnaaDoor.Kit
