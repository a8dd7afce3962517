/-
  Wheels under way in a box; timers set one behind the other: the facts of the laws FnFull, FnOnce.
-/
import Derived.Test.YtkoliacbajpijaaDoorMksA
import Derived.Test.YtkoliacbajpijaaDoorMriW
import Derived.Test.YtkoliacbajpijaaDoorBig
import Derived.Test.YtkoliacbajpijaaDoorExB
import Derived.Test.YtkoliacbajpijaaDoorDrawN
import Derived.IntWalk
namespace Go.Proofs.YtkoliacbajpijaaDoor.Whl
open Go.RowKit Go.Maps Go.Proofs.YtkoliacbajpijaaDoor.Kit Go.Proofs.YtkoliacbajpijaaDoor.Draw
set_option linter.unusedVariables false
set_option linter.unusedSimpArgs false

theorem dropL_most : ∀ {l : List T} {id : Int}, (l.map Prod.snd).Nodup → l.length ≤ (dropL l id).length + 1
  | [], id, _ => by simp
  | t :: l, id, h => by
    simp only [List.map_cons, List.nodup_cons] at h
    by_cases e : t.2 = id
    · have h1 : dropL (t :: l) id = l := by
        have : dropL (t :: l) id = dropL l id := by simp [dropL, e]
        rw [this]
        exact dropL_none (fun x hx hxe => h.1 (List.mem_map.2 ⟨x, hx, by rw [hxe, e]⟩))
      rw [h1]
      simp
    · have h1 : dropL (t :: l) id = t :: dropL l id := by simp [dropL, e]
      rw [h1]
      have := dropL_most (id := id) h.2
      simp
      omega
/-- a wheel under way in the box b3 -/
structure Fu (w wr : World) (b3 : Nat) (now : Int) (a : Option Addr) (n cap : Nat) (l : List T) : Prop where
  low : Below w.heap.size w wr
  x : Bx wr b3 (.int .i64 now) (.slice a n cap)
  f : Bf wr b3
  own : TOwn w.heap.size wr 28 (.slice a n cap) l
  h3 : w.heap.size ≤ b3
  sep : ∀ j, (Value.slice a n cap).ownBlock = some j → j ≠ b3
section
variable {b3 n cap n' cap' : Nat} {w wr w' : World} {a a' : Option Addr} {now : Int} {l l' : List T}
theorem Fu.below (h : Fu w wr b3 now a n cap l) (hb : Below wr.heap.size wr w') : Fu w w' b3 now a n cap l :=
  ⟨low_after h.low hb, h.x.below hb, h.f.low hb h.x.lt, h.own.below hb, h.h3, h.sep⟩
theorem Fu.put (h : Fu w wr b3 now a n cap l) (hb : Below wr.heap.size wr w') (ho : TOwn wr.heap.size w' 28 (.slice a' n' cap') l') (z : Int) :
    Fu w ((w'.setCell ⟨b3, 0, none⟩ (.int .i64 z)).setCell ⟨b3, 1, none⟩ (.slice a' n' cap')) b3 z a' n' cap' l' := by
  have h3 := h.x.lt
  have hn : ∀ j, (Value.slice a' n' cap').ownBlock = some j → j ≠ b3 := fun j hj => by have := (World.ownsRow.lt ho j hj).1; omega
  have h1 := h.below hb
  exact ⟨(h1.low.setCell (by exact h.h3) _).setCell (by exact h.h3) _, (h1.x.set0 _).set1 _, (h1.f.set _ _).set _ _, ((ho.setFar _ _ hn).setFar _ _ hn).base h.low.size, h.h3, hn⟩
theorem Fu.put2 {B : Nat} (h : Fu w wr b3 now a n cap l) (ho : TOwn B wr 28 (.slice a' n' cap') l') (h3 : b3 < B) (z : Int) :
    Fu w ((wr.setCell ⟨b3, 0, none⟩ (.int .i64 z)).setCell ⟨b3, 1, none⟩ (.slice a' n' cap')) b3 z a' n' cap' l' := by
  have hn : ∀ j, (Value.slice a' n' cap').ownBlock = some j → j ≠ b3 := fun j hj => by have := (World.ownsRow.lt ho j hj).1; omega
  have h4 := h.h3
  exact ⟨(h.low.setCell (by exact h.h3) _).setCell (by exact h.h3) _, (h.x.set0 _).set1 _, (h.f.set _ _).set _ _, ((ho.setFar _ _ hn).setFar _ _ hn).base (by omega), h.h3, hn⟩
theorem Fu.cells (h : Fu w wr b3 now a n cap l) : wr.cell? ⟨b3, 0, none⟩ = some (.int .i64 now) ∧ wr.cell? ⟨b3, 1, none⟩ = some (.slice a n cap) ∧ wr.frozen? ⟨b3, 0, none⟩ = false ∧ wr.frozen? ⟨b3, 1, none⟩ = false ∧ b3 < wr.heap.size := ⟨h.x.c0, h.x.c1, h.f.f0, h.f.f1, h.x.lt⟩
end
/-- the first j timers are set -/
structure FuL (M : Int) (l : List T) (j : Nat) : Prop where
  ok : WOk 0 l
  len : l.length = j
  each : ∀ t ∈ l, 1 ≤ t.2 ∧ t.2 ≤ (j : Int) ∧ t.1 ≤ M
  all : ∀ k : Int, 1 ≤ k → k ≤ (j : Int) → ∃ t ∈ l, t.2 = k
theorem FuL.nil {M : Int} : FuL M [] 0 := ⟨⟨by omega, by omega, by simp, by simp, by simp [Srt], by simp⟩, rfl, by simp, fun k h1 h2 => by omega⟩
theorem FuL.step {M : Int} {l : List T} {j : Nat} (h : FuL M l j) (hj : j < 60) (hM : M ≤ 1000000000) {X : Int} (hx0 : 1 ≤ X) (hx1 : X ≤ M) : setB 0 l (X, (j : Int) + 1) = true ∧ FuL M (setL l (X, (j : Int) + 1)) (j + 1) := by
  have hd : dropL l ((j : Int) + 1) = l := dropL_none (fun t ht => by have := h.each t ht; omega)
  have hw : WOk 0 (setL l (X, (j : Int) + 1)) := (h.ok.set_iff _).2 ⟨by unfold tOk; simp only; omega, by simp only; rw [hd, h.len]; omega⟩
  refine ⟨setB_yes h.ok hw, ⟨hw, by rw [setL_len]; simp only; rw [hd, h.len], fun t ht => ?_, fun k h1 h2 => ?_⟩⟩
  · rcases setL_mem.1 ht with rfl | ⟨h1, _⟩
    · simp only; omega
    · have := h.each t h1; omega
  · by_cases hk : k = (j : Int) + 1
    · exact ⟨(X, (j : Int) + 1), setL_mem.2 (.inl rfl), hk.symm⟩
    · obtain ⟨t, ht, e⟩ := h.all k h1 (by omega)
      exact ⟨t, setL_mem.2 (.inr ⟨ht, by simp only; omega⟩), e⟩
theorem FuL.no {M : Int} {l : List T} (h : FuL M l 60) : setB 0 l (5, 61) = false := by
  refine setB_no2 (fun hc => ?_)
  have h1 := ((h.ok.set_iff _).1 hc).2
  simp only at h1
  rw [dropL_none (fun t ht => by have := h.each t ht; omega), h.len] at h1
  omega
theorem FuL.own {M : Int} {l : List T} (h : FuL M l 60) {Y : Int} (hy0 : 1 ≤ Y) (hy1 : Y ≤ 60) : setB 0 l (700, Y) = true ∧ WOk 0 (setL l (700, Y)) ∧ (setL l (700, Y)).length = 60 := by
  obtain ⟨t, ht, e⟩ := h.all Y hy0 (by omega)
  have hlt : (dropL l Y).length < l.length := by
    unfold dropL
    exact List.length_filter_lt_length_iff_exists.2 ⟨t, ht, by simp [e]⟩
  have hm := dropL_most (id := Y) h.ok.ids
  have hl := h.len
  have hw : WOk 0 (setL l (700, Y)) := (h.ok.set_iff _).2 ⟨by unfold tOk; simp only; omega, by simp only; omega⟩
  exact ⟨setB_yes h.ok hw, hw, by rw [setL_len]; simp only; omega⟩
theorem last_700 {M : Int} {l : List T} (h : FuL M l 60) (hM : M < 700) {Y : Int} (hw : WOk 0 (setL l (700, Y))) (hn : (setL l (700, Y)).length = 60) : ((setL l (700, Y))[59]'(by omega)).1 = 700 := by
  obtain ⟨p, hp, e⟩ := List.getElem_of_mem (setL_mem.2 (.inl rfl) : ((700, Y) : T) ∈ setL l (700, Y))
  by_cases hp9 : p = 59
  · subst hp9; rw [e]
  · have h1 := (List.pairwise_iff_getElem.1 hw.srt) p 59 hp (by omega) (by omega)
    rw [e] at h1
    have h2 : (setL l (700, Y))[59]'(by omega) ∈ setL l (700, Y) := List.getElem_mem _
    unfold ahd at h1
    rcases setL_mem.1 h2 with h3 | ⟨h3, _⟩
    · rw [h3]
    · have := h.each _ h3
      simp only at h1
      omega
theorem past_no {B : List T} : setB 0 B (0, 1) = false := by
  by_cases h : WOk 0 B
  · refine setB_no2 (fun hc => ?_)
    have h1 := ((h.set_iff _).1 hc).1
    unfold tOk at h1
    simp only at h1
    omega
  · exact setB_no1 _ h
end Go.Proofs.YtkoliacbajpijaaDoor.Whl
