/-
  What a message says in words, as lists; the tables that the program reads for it. No walk.
-/
import Derived.Test.YtjcopkjapnieoaaDoorTextW
import Derived.Test.YtjcopkjapnieoaaDoorEvA
import Derived.WalkSmall
import Derived.Lib.LaidTab
import Derived.Lib.ItoaLen
import Derived.Lib.Join
import Derived.Laws.Concat
namespace Go.Proofs.YtjcopkjapnieoaaDoor.Evt
open Go.RowKit
set_option linter.unusedVariables false

theorem cat_lists (x y : List UInt8) (h : x.length + y.length ≤ 9223372036854775807) (w : World) : (Op.stringOp .add ⟨x.toArray⟩ ⟨y.toArray⟩).run Tryd.prog w = .ok (.string ⟨(x ++ y).toArray⟩) w := by
  rw [run_string_add_sum w _ _ (by show x.toArray.size + y.toArray.size ≤ _; simpa using h)]
  congr 2
/-- the words for the statuses -/
def stL : List (List UInt8) := [[119, 97, 105, 116, 105, 110, 103], [102, 108, 121, 105, 110, 103], [101, 120, 112, 105, 114, 101, 100], [100, 101, 97, 100]]
def stN (s : Int) : List UInt8 := stL.getD s.toNat []
theorem stN_le {s : Int} (h0 : 0 ≤ s) (h1 : s ≤ 3) : (stN s).length ≤ 7 := by
  rcases (show s = 0 ∨ s = 1 ∨ s = 2 ∨ s = 3 by omega) with rfl | rfl | rfl | rfl <;> decide
def numsE (i d c a t r n : Int) : List Int := [i, d, c, a, t, r, n]
/-- numbers in words, a blank behind each -/
def headE (L : List Int) : List UInt8 := L.flatMap (fun x => Lib.itoa x ++ [32])
def textE (i d c : Int) (m : Nat) (a t r n s : Int) : List UInt8 := if EOk i d c m a t r n s then headE (numsE i d c a t r n) ++ stN s else []
theorem headE_snoc (L : List Int) (k : Nat) (h : k < L.length) : headE (L.take (k + 1)) = headE (L.take k) ++ Lib.itoa L[k] ++ [32] := by
  unfold headE
  rw [List.take_succ_eq_append_getElem h, List.flatMap_append]
  simp
theorem headE_le (L : List Int) (h : ∀ x ∈ L, (Lit.int .i64 x).wf = true) : (headE L).length ≤ 22 * L.length := by
  induction L with
  | nil => simp [headE]
  | cons x L ih =>
    obtain ⟨h0, h1⟩ := Dec.i64_bounds (h x (by simp))
    have hx := Lib.itoa_length_le x h0 h1
    have := ih (fun y hy => h y (by simp [hy]))
    unfold headE at this ⊢
    rw [List.flatMap_cons]
    simp only [List.length_append, List.length_cons, List.length_nil] at this ⊢
    omega
theorem wf_nat {x : Int} (h0 : 0 ≤ x) (h1 : x ≤ 9223372036854775807) : (Lit.int .i64 x).wf = true := by
  simp [Lit.wf, IntKind.min, IntKind.max, IntKind.signed, IntKind.bits]
  omega
theorem numsE_bd {i d c : Int} {m : Nat} {a t r n s : Int} (h : EOk i d c m a t r n s) : ∀ x ∈ numsE i d c a t r n, 0 ≤ x ∧ x ≤ 2000000000 := by
  unfold EOk at h
  intro x hx
  simp only [numsE, List.mem_cons, List.mem_nil_iff, or_false] at hx
  rcases hx with rfl | rfl | rfl | rfl | rfl | rfl | rfl <;> omega
theorem numsE_wf {i d c : Int} {m : Nat} {a t r n s : Int} (h : EOk i d c m a t r n s) : ∀ x ∈ numsE i d c a t r n, (Lit.int .i64 x).wf = true := fun x hx => wf_nat (numsE_bd h x hx).1 (Int.le_trans (numsE_bd h x hx).2 (by omega))
theorem head_take_le {i d c : Int} {m : Nat} {a t r n s : Int} (h : EOk i d c m a t r n s) (k : Nat) (hk : k ≤ 7) : (headE ((numsE i d c a t r n).take k)).length ≤ 154 := by
  have h1 := headE_le ((numsE i d c a t r n).take k) (fun x hx => numsE_wf h x (List.mem_of_mem_take hx))
  have h2 : ((numsE i d c a t r n).take k).length ≤ 7 := by rw [List.length_take]; simp [numsE]; omega
  omega
/-- parts with blanks between are the parts with a blank behind each, and the last one -/
theorem join_text (L : List Int) (q : List UInt8) : Lib.join (L.map Lib.itoa ++ [q]) [32] = headE L ++ q := by
  induction L with
  | nil => simp [headE, Lib.join_one]
  | cons x L ih =>
    have h1 : Lib.join ((x :: L).map Lib.itoa ++ [q]) [32] = Lib.itoa x ++ Lib.joinTail [32] (L.map Lib.itoa ++ [q]) := by
      rw [List.map_cons, List.cons_append, Lib.join_cons]
    have h2 : Lib.joinTail [32] (L.map Lib.itoa ++ [q]) = [32] ++ Lib.join (L.map Lib.itoa ++ [q]) [32] := by
      cases L with
      | nil => simp [Lib.joinTail, Lib.join_one]
      | cons y L => rw [List.map_cons, List.cons_append, Lib.join_cons]; simp [Lib.joinTail]
    rw [h1, h2, ih]
    simp [headE]

/-- the table of powers of ten, and where it lies -/
def Tab (w : World) : Prop := Lib.TabIs Tryd.prog w "internal/strconv.uint64pow10" .u64 Lib.pow10Tab ∧ 2 < w.heap.size
theorem gPow0 : Tryd.prog.globalNamed "internal/strconv.uint64pow10" = some 2 := by kernel_rfl
theorem Tab.of {w : World} (h : Lib.TabIs Tryd.prog w "internal/strconv.uint64pow10" .u64 Lib.pow10Tab) : Tab w :=
  ⟨h, World.block_lt_of_cell? w _ (h.cell gPow0 0 (by simp [Lib.pow10Tab]))⟩
theorem Tab.below {w w' : World} {B : Nat} (h : Tab w) (hB : w.heap.size ≤ B) (hb : Below B w w') : Tab w' :=
  ⟨var?_below (hb.mono hB) gPow0 h.2 h.1, Nat.lt_of_lt_of_le h.2 hb.size⟩
/-- the table of the statuses' words -/
def Stat (w : World) : Prop := 0 < w.heap.size ∧ ∀ j, j < 4 → w.cell? ⟨0, j, none⟩ = some (.string ⟨(stL.getD j []).toArray⟩)
theorem Stat.below {w w' : World} {B : Nat} (h : Stat w) (hB : w.heap.size ≤ B) (hb : Below B w w') : Stat w' :=
  ⟨Nat.lt_of_lt_of_le h.1 hb.size, fun j hj => (hb.cell (p := ⟨0, j, none⟩) (Nat.lt_of_lt_of_le h.1 hB)).trans (h.2 j hj)⟩
end Go.Proofs.YtjcopkjapnieoaaDoor.Evt
