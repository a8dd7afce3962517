/-
  The facts of the law FnOnce: what is due comes once; a wheel under way, and the ints of what was due beside it.
-/
import Derived.Test.YtkoliacbajpijaaDoorFuA
import Derived.Test.YtkoliacbajpijaaDoorFtuA
import Derived.Test.YtkoliacbajpijaaDoorAtA
namespace Go.Proofs.YtkoliacbajpijaaDoor.Whl
open Go.RowKit Go.Maps Go.Proofs.YtkoliacbajpijaaDoor.Kit Go.Proofs.YtkoliacbajpijaaDoor.Draw
set_option linter.unusedVariables false

/-- behind j turns -/
structure OnI (L : List T) (j : Nat) (now : Int) (l : List T) (xs : List Int) : Prop where
  ok : WOk now l
  n0 : (j : Int) ≤ now
  n1 : now ≤ 9 * (j : Int)
  hl : l = restL L now
  hx : xs = (dueL L now).map Prod.snd
theorem OnI.start {M : Int} {L : List T} {n : Nat} (h : FuL M L n) : OnI L 0 0 L [] := by
  refine ⟨h.ok, by omega, by omega, ?_, ?_⟩
  · symm
    exact List.filter_eq_self.2 (fun t ht => by have := (h.ok.each t ht).1; simpa using this)
  · have : dueL L 0 = [] := List.filter_eq_nil_iff.2 (fun t ht => by have := (h.ok.each t ht).1; simp; omega)
    rw [this]
    rfl
theorem OnI.step {L l : List T} {j : Nat} {now z tg : Int} {xs : List Int} (h : OnI L j now l xs) (hs : Srt L) (hj : j < 400) (hz0 : 0 ≤ z) (hz1 : z < 9) (hto : tg = now + 1 + z) :
    (trnN now l tg = tg ∧ trnR now l tg = restL L tg ∧ trnI now l tg = (dueL l tg).map Prod.snd) ∧ OnI L (j + 1) tg (restL L tg) (xs ++ (dueL l tg).map Prod.snd) := by
  have h0 := h.n0
  have h1 := h.n1
  obtain ⟨e1, e2, e3⟩ := trn_r (trnB_yes h.ok (by omega : now ≤ tg) (by omega : tg ≤ 1000000000))
  have e4 : restL l tg = restL L tg := by rw [h.hl, rest_rest (by omega)]
  refine ⟨⟨e1, e2.trans e4, e3⟩, ⟨?_, by omega, by omega, rfl, ?_⟩⟩
  · rw [← e4]; exact h.ok.rest (by omega) (by omega)
  · rw [h.hx, ← List.map_append]
    have e5 := h.hl
    rw [e5, due_two hs (by omega)]
theorem due_pos {now tg : Int} {l : List T} (h : WOk now l) (hp : 0 < l.length) : decide ((0 : Int) < ((dueL l tg).length : Int)) = decide (nextL l ≤ tg) := by
  by_cases hc : nextL l ≤ tg
  · rw [decide_eq_true hc]
    refine decide_eq_true ?_
    have h1 : l[0] ∈ dueL l tg := dueL_mem.2 ⟨List.getElem_mem _, by rw [nextL_some hp] at hc; exact hc⟩
    have := List.length_pos_of_mem h1
    omega
  · rw [decide_eq_false hc]
    refine decide_eq_false ?_
    have h1 : dueL l tg = [] := List.filter_eq_nil_iff.2 (fun t ht => by
      obtain ⟨p, hp2, e⟩ := List.getElem_of_mem ht
      rw [nextL_some hp] at hc
      by_cases h0 : p = 0
      · subst h0; rw [e] at hc; simpa using hc
      · have h1 := (List.pairwise_iff_getElem.1 h.srt) 0 p hp hp2 (by omega)
        rw [e] at h1
        unfold ahd at h1
        simp
        omega)
    rw [h1]
    simp
theorem OnI.done {L l : List T} {n j : Nat} {now : Int} {xs : List Int} (h : OnI L j now l xs) (hL : FuL 300 L n) (hj : 400 ≤ j ∨ l = []) : l = [] ∧ xs = L.map Prod.snd := by
  have h1 : l = [] := by
    rcases hj with hj | hj
    · rw [h.hl]
      exact List.filter_eq_nil_iff.2 (fun t ht => by have := (hL.each t ht).2.2; have := h.n0; simp; omega)
    · exact hj
  refine ⟨h1, ?_⟩
  have h2 : dueL L now = L := List.filter_eq_self.2 (fun t ht => by
    by_cases hc : t.1 ≤ now
    · simpa using hc
    · have h3 : t ∈ restL L now := restL_mem.2 ⟨ht, by omega⟩
      rw [← h.hl, h1] at h3
      simp at h3)
  rw [h.hx, h2]
theorem OnI.lens {L l : List T} {j : Nat} {now : Int} {xs : List Int} (h : OnI L j now l xs) : xs.length + l.length = L.length := by
  rw [h.hx, h.hl, List.length_map]
  exact due_rest_len L now
/-- how many of the first k are i -/
def cntL (xs : List Int) (i : Int) (k : Nat) : Int := (((xs.take k).filter fun x => x == i).length : Int)
theorem cntL_zero (xs : List Int) (i : Int) : cntL xs i 0 = 0 := by simp [cntL]
theorem cntL_yes {xs : List Int} {i : Int} {k : Nat} (h : k < xs.length) (he : xs[k] = i) : cntL xs i (k + 1) = cntL xs i k + 1 := by
  unfold cntL
  rw [List.take_succ_eq_append_getElem h, List.filter_append, List.length_append]
  simp [he]
theorem cntL_no {xs : List Int} {i : Int} {k : Nat} (h : k < xs.length) (he : (xs[k] == i) = false) : cntL xs i (k + 1) = cntL xs i k := by
  unfold cntL
  rw [List.take_succ_eq_append_getElem h, List.filter_append, List.length_append]
  simp [he]
theorem cntL_le (xs : List Int) (i : Int) (k : Nat) : 0 ≤ cntL xs i k ∧ cntL xs i k ≤ k := by
  unfold cntL
  have h1 := List.length_filter_le (fun x => x == i) (xs.take k)
  have h2 := List.length_take_le k xs
  omega
theorem one_of : ∀ {xs : List Int} {i : Int}, xs.Nodup → i ∈ xs → (xs.filter fun x => x == i).length = 1
  | [], i, _, h => by simp at h
  | x :: xs, i, hn, h => by
    rw [List.nodup_cons] at hn
    by_cases hx : x = i
    · subst hx
      have h1 : (xs.filter fun y => y == x) = [] := List.filter_eq_nil_iff.2 (fun y hy => by
        simp
        rintro rfl
        exact hn.1 hy)
      simp [h1]
    · have h2 : i ∈ xs := by
        rcases List.mem_cons.1 h with h3 | h3
        · exact absurd h3.symm hx
        · exact h3
      have h1 := one_of hn.2 h2
      simp [hx, h1]
theorem FuL.once {M : Int} {L : List T} {n : Nat} (h : FuL M L n) {i : Int} (h0 : 1 ≤ i) (h1 : i ≤ n) : cntL (L.map Prod.snd) i (L.map Prod.snd).length = 1 := by
  obtain ⟨t, ht, e⟩ := h.all i h0 h1
  unfold cntL
  rw [List.take_length]
  have := one_of h.ok.ids (List.mem_map.2 ⟨t, ht, e⟩)
  omega

/-- ints beside a wheel -/
structure On (w wr : World) (b3 : Nat) (now : Int) (a : Option Addr) (n cap : Nat) (l : List T) (vi : Value) (xs : List Int) : Prop where
  fu : Fu w wr b3 now a n cap l
  ii : IOwn w.heap.size wr vi xs
  ne : vi.ownBlock ≠ some b3
section
variable {b3 n cap n' cap' B : Nat} {w wr w' : World} {a a' : Option Addr} {now : Int} {l l' : List T} {vi vi' : Value} {xs xs' : List Int}
theorem On.below (h : On w wr b3 now a n cap l vi xs) (hb : Below wr.heap.size wr w') : On w w' b3 now a n cap l vi xs := ⟨h.fu.below hb, h.ii.below hb, h.ne⟩
theorem On.put (h : On w wr b3 now a n cap l vi xs) (ho : TOwn B wr 28 (.slice a' n' cap') l') (h3 : b3 < B) (z : Int) :
    On w ((wr.setCell ⟨b3, 0, none⟩ (.int .i64 z)).setCell ⟨b3, 1, none⟩ (.slice a' n' cap')) b3 z a' n' cap' l' vi xs :=
  ⟨h.fu.put2 ho h3 z, (h.ii.grown (setCell_grown wr b3 0 _) (.inr h.ne)).grown (setCell_grown _ b3 1 _) (.inr h.ne), h.ne⟩
theorem On.lt (h : On w wr b3 now a n cap l vi xs) : ∀ j, vi.ownBlock = some j → j < wr.heap.size := fun j hj => (World.ownsRow.lt h.ii j hj).2
theorem On.app (h : On w wr b3 now a n cap l vi xs) (ha : AppI w.heap.size wr vi xs' vi' w') : On w w' b3 now a n cap l vi' xs' := by
  have hg := ha.2.1
  refine ⟨⟨low_grown h.fu.low hg (fun j hj => (World.ownsRow.lt h.ii j hj).1), h.fu.x.grown hg h.ne, h.fu.f.grown h.fu.x.lt hg h.ne, h.fu.own.grown hg ?_, h.fu.h3, h.fu.sep⟩, ha.1, ?_⟩
  · rcases own_sep h.fu.own h.ii with e | e
    · cases hv : (Value.slice a n cap).ownBlock with
      | none => exact .inl rfl
      | some k => rw [e]; exact .inr (by simp)
    · exact .inr (Ne.symm e)
  · rcases ha.2.2 with e | e
    · rw [e]; exact h.ne
    · rw [e]
      have := h.fu.x.lt
      simp
      omega
end
/-- what a turn leaves: the wheel in the box k, and the ints -/
structure Wi (w : World) (k B E : Nat) (now : Int) (a : Option Addr) (n cap : Nat) (S : List T) (vi : Value) (xs : List Int) : Prop where
  wh : Wc w k B E now a n cap S
  ii : IOwn B w vi xs
  ne : ∀ j, vi.ownBlock = some j → j ≠ k ∧ j < E
section
variable {w w1 w3 : World} {k B E Bc n cap : Nat} {now : Int} {a : Option Addr} {S : List T} {vi : Value} {xs : List Int} {r : Option Nat}
theorem Wi.new (h : TOwn Bc w3 28 (.slice a n cap) S) (hi : IOwn Bc w3 vi xs) (hB : B ≤ Bc) (hc : Bc ≤ w3.heap.size) (now : Int) :
    Wi (w3.alloc (.cells #[.int .i64 now, .slice a n cap] 26)) w3.heap.size B (w3.alloc (.cells #[.int .i64 now, .slice a n cap] 26)).heap.size now a n cap S vi xs :=
  ⟨Wc.new h hB hc now, (hi.below (bOne _ _)).base hB, fun j hj => by have := (World.ownsRow.lt hi j hj).2; simp; omega⟩
theorem Wi.put (hz : Bz w3 k) (h : TOwn Bc w3 28 (.slice a n cap) S) (hi : IOwn Bc w3 vi xs) (hk : k < Bc) (hB : B ≤ k) (now : Int) :
    Wi ((w3.setCell ⟨k, 0, none⟩ (.int .i64 now)).setCell ⟨k, 1, none⟩ (.slice a n cap)) k B ((w3.setCell ⟨k, 0, none⟩ (.int .i64 now)).setCell ⟨k, 1, none⟩ (.slice a n cap)).heap.size now a n cap S vi xs :=
  ⟨Wc.put hz h hk hB now, ((hi.setLow (by exact hk) _).setLow (by exact hk) _).base (by omega), fun j hj => by
    have := World.ownsRow.lt hi j hj
    simp
    omega⟩
theorem Wi.below (h : Wi w k B E now a n cap S vi xs) (hb : Below w.heap.size w w1) : Wi w1 k B E now a n cap S vi xs := ⟨h.wh.below hb, h.ii.below hb, h.ne⟩
theorem Wi.mark_hi (h : Wi w k B E now a n cap S vi xs) (hg : w.grownBy w1 r) (hr : ∀ j, r = some j → j < B) : Wc w1 k B E now a n cap S := h.wh.mark_hi hg hr
end
end Go.Proofs.YtkoliacbajpijaaDoor.Whl
