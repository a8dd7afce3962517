/-
  A list that grows in a box.
-/
import Derived.Test.YtkoliacbajpijaaDoorSpcW
namespace Go.Proofs.YtkoliacbajpijaaDoor.Whl
open Go.RowKit Go.Maps
set_option linter.unusedVariables false

/-- a wheel in a box at o, whose list is of the call's own -/
structure Gr (w : World) (o B : Nat) (u v : Value) (S : List T) : Prop where
  box : Bx w o u v
  fro : Bf w o
  own : TOwn B w 28 v S
  ne : v.ownBlock ≠ some o
section
variable {w w1 w2 : World} {o B : Nat} {u v v' : Value} {S S' : List T}
theorem Gr.below (h : Gr w o B u v S) (hb : Below w.heap.size w w1) : Gr w1 o B u v S := ⟨h.box.below hb, h.fro.low hb h.box.lt, h.own.below hb, h.ne⟩
theorem Gr.cells (h : Gr w o B u v S) : w.cell? ⟨o, 0, none⟩ = some u ∧ w.cell? ⟨o, 1, none⟩ = some v ∧ w.frozen? ⟨o, 0, none⟩ = false ∧ w.frozen? ⟨o, 1, none⟩ = false := ⟨h.box.c0, h.box.c1, h.fro.f0, h.fro.f1⟩
/-- behind an append, ahead of the store -/
theorem Gr.at_ (h : Gr w o B u v S) (hb : Below w.heap.size w w1) (ha : AppT B w1 v S' v' w2) : Bx w2 o u v ∧ Bf w2 o ∧ (v'.ownBlock ≠ some o) := by
  have h1 := h.below hb
  have hg := ha.2.1
  refine ⟨h1.box.grown hg h.ne, ⟨?_, ?_⟩, ?_⟩
  · exact (hg.frozen_far ⟨o, 0, none⟩ h1.box.lt (Ne.symm h.ne)).trans h1.fro.f0
  · exact (hg.frozen_far ⟨o, 1, none⟩ h1.box.lt (Ne.symm h.ne)).trans h1.fro.f1
  · rcases ha.2.2 with e | e
    · rw [e]; exact h.ne
    · rw [e]
      have := h1.box.lt
      simp
      omega
theorem Gr.app (h : Gr w o B u v S) (hb : Below w.heap.size w w1) (ha : AppT B w1 v S' v' w2) (ho : B ≤ o) : Gr (w2.setCell ⟨o, 1, none⟩ v') o B u v' S' ∧ Below B w (w2.setCell ⟨o, 1, none⟩ v') := by
  obtain ⟨h1, h2, h3⟩ := h.at_ hb ha
  have hBw : B ≤ w.heap.size := Nat.le_trans ho (Nat.le_of_lt h.box.lt)
  have hsg := setCell_grown w2 o 1 v'
  refine ⟨⟨⟨?_, ?_, ?_⟩, ⟨?_, ?_⟩, ha.1.grown hsg (.inr h3), h3⟩, ?_⟩
  · rw [World.cell?_setCell_other _ _ _ _ (by simp)]
    exact h1.c0
  · exact World.cell?_setCell_same' _ _ _ (by rw [h1.c1]; rfl)
  · have := h1.lt
    simpa using this
  · rw [World.frozen?_setCell]; exact h2.f0
  · rw [World.frozen?_setCell]; exact h2.f1
  · exact (ha.below (hb.mono hBw) hBw (fun k hk => (World.ownsRow.lt h.own k hk).1)).setCell (by simpa using ho) _
end
theorem AppT.form {B : Nat} {w w' : World} {v v' : Value} {xs : List T} (h : AppT B w v xs v' w') : ∃ a n c, v' = Value.slice a n c := by
  obtain ⟨a, c, e⟩ := h.1.shape
  exact ⟨a, _, c, e⟩
theorem own_some {B : Nat} {w : World} {E : TypeId} {v : Value} {l : List T} (h : TOwn B w E v l) (hn : v.ownBlock ≠ none) : ∃ g cap, v = .slice (some ⟨g, 0, none⟩) l.length cap := by
  rcases h.2 with ⟨e, _⟩ | ⟨g, c, cur, e, _⟩
  · rw [e] at hn; exact absurd rfl hn
  · exact ⟨g, c, e⟩
theorem gr_start (W : World) (u : Value) : Gr ((W.alloc (.cells #[] 28)).alloc (.cells #[u, .slice (some ⟨W.heap.size, 0, none⟩) 0 0] 26)) (W.heap.size + 1) W.heap.size u (.slice (some ⟨W.heap.size, 0, none⟩) 0 0) [] := by
  have h1 := Bx.new (W.alloc (.cells #[] 28)) u (.slice (some ⟨W.heap.size, 0, none⟩) 0 0) 26
  have h2 := Bf.new (W.alloc (.cells #[] 28)) #[u, .slice (some ⟨W.heap.size, 0, none⟩) 0 0] 26
  have e : (W.alloc (.cells #[] 28)).heap.size = W.heap.size + 1 := by simp
  rw [e] at h1 h2
  exact ⟨h1, h2, (tnil W).below (bOne _ _), by simp [Value.ownBlock]⟩
theorem dropL_snoc_ne {l : List T} {k : Nat} (h : k < l.length) {id : Int} (hne : l[k].2 ≠ id) : dropL (l.take (k + 1)) id = dropL (l.take k) id ++ [l[k]] := by
  rw [List.take_succ_eq_append_getElem h, dropL_append]
  congr 1
  simp [dropL, hne]
theorem dropL_snoc_eq {l : List T} {k : Nat} (h : k < l.length) {id : Int} (he : l[k].2 = id) : dropL (l.take (k + 1)) id = dropL (l.take k) id := by
  rw [List.take_succ_eq_append_getElem h, dropL_append]
  simp [dropL, he]
end Go.Proofs.YtkoliacbajpijaaDoor.Whl
