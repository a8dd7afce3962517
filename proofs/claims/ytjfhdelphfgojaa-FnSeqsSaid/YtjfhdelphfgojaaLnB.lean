/-
  A link in a box that is stored anew, whole; what is left of a list when ids leave it one by one.
-/
import Derived.Test.YtjfhdelphfgojaaLmA
import Derived.Test.YtjfhdelphfgojaaLxA
import Derived.Test.YtjfhdelphfgojaaLnA
namespace Go.Proofs.Ytjfhdelphfgojaa.Lnk
open Go.RowKit
set_option linter.unusedVariables false

theorem H4.put {w w1 : World} {o B : Nat} {up up' : Bool} {ep sq ep' sq' : Int} {v : Value} {a' : Option Addr} {n' cap' : Nat} {S S' : List Y} (h : H4 w o B up ep sq v S) (hb : Below w.heap.size w w1) (ho : YOwn w.heap.size w1 40 (.slice a' n' cap') S') :
    H4 ((((w1.setCell ⟨o, 0, none⟩ (.bool up')).setCell ⟨o, 1, none⟩ (.int .i64 ep')).setCell ⟨o, 2, none⟩ (.int .i64 sq')).setCell ⟨o, 3, none⟩ (.slice a' n' cap')) o B up' ep' sq' (.slice a' n' cap') S' := by
  have hlt := h.box.lt
  have hn : ∀ j, (Value.slice a' n' cap').ownBlock = some j → j ≠ o := fun j hj => by have := (World.ownsRow.lt ho j hj).1; omega
  exact ⟨((((h.box.below hb).set0 up').set1 ep').set2 sq').set3 _, (((((h.fro.low hb hlt).set _ _).set _ _).set _ _).set _ _), (((((ho.base (Nat.le_trans h.lo (Nat.le_of_lt hlt))).setFar _ _ hn).setFar _ _ hn).setFar _ _ hn).setFar _ _ hn), fun e => hn o e rfl, h.lo⟩
theorem low_put4 {W w3 : World} {k : Nat} (h : Below W.heap.size W w3) (hk : W.heap.size ≤ k) (x0 x1 x2 x3 : Value) : Below W.heap.size W ((((w3.setCell ⟨k, 0, none⟩ x0).setCell ⟨k, 1, none⟩ x1).setCell ⟨k, 2, none⟩ x2).setCell ⟨k, 3, none⟩ x3) :=
  (((h.setCell (by exact hk) _).setCell (by exact hk) _).setCell (by exact hk) _).setCell (by exact hk) _
/-- without those whose id is named -/
def outL (ids : List Int) (l : List Y) : List Y := l.filter fun t => !decide (t.2.1 ∈ ids)
theorem outL_nil (l : List Y) : outL [] l = l := by unfold outL; simp
theorem outL_sub (ids : List Int) (l : List Y) : (outL ids l).Sublist l := List.filter_sublist
theorem outL_snoc (ids : List Int) (x : Int) (l : List Y) : stayL (isI x) (outL ids l) = outL (ids ++ [x]) l := by
  unfold stayL outL isI
  rw [List.filter_filter]
  congr 1
  funext t
  simp [Bool.and_comm]
theorem fgt_step {up : Bool} {ep sq : Int} {l : List Y} (h : LOk up ep sq l) (I : List Int) (j : Nat) (hj : j < I.length) : fgtL up ep sq (outL (I.take j) l) I[j] = outL (I.take (j + 1)) l := by
  unfold fgtL
  rw [lokB_true (h.sub (outL_sub _ _)), if_pos rfl, outL_snoc, List.take_succ_eq_append_getElem hj]
theorem outL_end {l : List Y} (h : l.Pairwise fun a b => a.1 < b.1 ∧ a.2.1 ≠ b.2.1) (p : Y → Bool) : outL (idsL (goneL p l)) l = stayL p l := by
  have hinj : ∀ t ∈ l, ∀ u ∈ l, t.2.1 = u.2.1 → t = u := by
    intro t ht u hu he
    obtain ⟨i, hi, rfl⟩ := List.getElem_of_mem ht
    obtain ⟨k, hk, rfl⟩ := List.getElem_of_mem hu
    rcases Nat.lt_trichotomy i k with hl | hl | hl
    · exact absurd he (List.pairwise_iff_getElem.1 h i k hi hk hl).2
    · subst hl; rfl
    · exact absurd he.symm (List.pairwise_iff_getElem.1 h k i hk hi hl).2
  unfold outL stayL
  refine List.filter_congr fun t ht => ?_
  have hiff : t.2.1 ∈ idsL (goneL p l) ↔ p t = true := by
    unfold idsL goneL
    constructor
    · intro hm
      obtain ⟨u, hu, he⟩ := List.mem_map.1 hm
      obtain ⟨hu1, hu2⟩ := List.mem_filter.1 hu
      have := hinj t ht u hu1 he.symm
      rw [this]; exact hu2
    · intro hp
      exact List.mem_map.2 ⟨t, List.mem_filter.2 ⟨ht, hp⟩, rfl⟩
  cases hp : p t with
  | true => simp [hiff.2 hp]
  | false =>
    have : ¬ t.2.1 ∈ idsL (goneL p l) := fun hm => by rw [hiff.1 hm] at hp; cases hp
    simp [this]
theorem stayU_at {l : List Y} {now : Int} {j : Nat} (hj : j < (stayL (isU now) l).length) : now < (stayL (isU now) l)[j].2.2 := by
  have hm := List.getElem_mem hj
  generalize (stayL (isU now) l)[j] = t at hm
  unfold stayL at hm
  have := (List.mem_filter.1 hm).2
  unfold isU at this
  simpa using this
end Go.Proofs.Ytjfhdelphfgojaa.Lnk
