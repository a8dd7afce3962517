/-
  Maps from ids to places: of the call's own, told by the list of their keys; the builtin clear.
-/
import Derived.Test.YtecfomaapomncaaGtG
import Derived.Test.YtecfomaapomncaaLkM
import Derived.Maps.OwnSet
import Derived.WalkArith
namespace Go.Proofs.Ytecfomaapomncaa.Gat
open Go.RowKit Go.Maps
open Lnk (keyInt)
set_option linter.unusedVariables false

theorem zeroInt (w : World) : (zeroValue 3).run Try.prog w = .ok (.int .i64 0) w := by kernel_rfl
theorem keyOf_wf {y : Int} (h : (Lit.int .i64 y).wf = true) : keyOf Try.prog 3 (.int .i64 y) = some (.int .i64 y) := keyOf_int_mk Try.underlying3 h

theorem cleared {w : World} {b n : Nat} {D : DataW Unit} {T : TypeId} (h : w.ownsMap Try.prog 3 (plainElem (H := Unit) Try.prog 3) b n D) (ht : Try.prog.underlying T = some (.map 3 3)) (ty : TypeId) :
    ∃ w', (Builtin.clear_ #[T] ty #[.map (some b)]).run Try.prog w = .ok (.tuple #[]) w' ∧ w'.ownsMap Try.prog 3 (plainElem (H := Unit) Try.prog 3) b 0 (.map []) ∧ w.grownBy w' (some b) := by
  obtain ⟨es, clock, hb, F, hs, rfl⟩ := h
  have hlt := (Array.getElem?_eq_some_iff.1 hb).1
  refine ⟨{ w with heap := w.heap.setIfInBounds b (.map #[] clock) }, ?_, ⟨#[], clock, (MapKept.heap_set hb).1, ⟨by simp, MapKept.stamped_empty clock, by simp⟩, Nat.le_refl _, rfl⟩, ⟨rfl, rfl, rfl, by simp, fun k hk hne => (MapKept.heap_set hb).2 k (fun e => hne (by rw [e]))⟩⟩
  simp [Builtin.clear_, run_underlying ht, MapKept.run_getObj_map hb, MapKept.run_setObj_map _ hb, Result.andThen]
/-- 'clear(m)' at the operation -/
theorem wpList_clear_own {w : World} {ops : Array Oper} {rest : List Oper} {o : Oper} {a : Act} {Q : Exit → Act → World → Prop} {b n : Nat} {D : DataW Unit} (hg : o.guard = none) (m : Operand) (T : TypeId) (hop : o.op = Op.call { callee := Callee.builtin Builtin.clear, args := #[m], argTypes := #[T] })
    (ht : Try.prog.underlying T = some (.map 3 3)) (hm : a.eval m = .map (some b)) (hown : w.ownsMap Try.prog 3 (plainElem (H := Unit) Try.prog 3) b n D)
    (hK : ∀ w', w'.ownsMap Try.prog 3 (plainElem (H := Unit) Try.prog 3) b 0 (.map []) → w.grownBy w' (some b) → wpList Try.prog ops Q rest (a.put o.dst (.tuple #[])) w') : wpList Try.prog ops Q (o :: rest) a w := by
  refine wpList_plain hg fun K' hK' => ?_
  obtain ⟨w', hrun, r1, r2⟩ := cleared hown ht o.type
  unfold Oper.wp
  simp [execOp, hop, resolve, invoke, builtin, hm, hrun, Result.andThen]
  exact hK' _ _ (hK w' r1 r2)

/-- a map whose keys are just these -/
structure MapIs (w : World) (b n : Nat) (D : DataW Unit) (K : List Int) : Prop where
  own : w.ownsMap Try.prog 3 (plainElem (H := Unit) Try.prog 3) b n D
  keys : ∀ id : Int, Maps.has D (.int .i64 id) = decide (id ∈ K)
  size : Maps.size D = K.length
section
variable {w w' : World} {b n : Nat} {D : DataW Unit} {K : List Int}
theorem keyLit (id : Int) : WideAt.IsKeyLit (.int .i64 id) := trivial
theorem litNe {a c : Int} (h : a ≠ c) : (Lit.int .i64 a) ≠ .int .i64 c := fun e => h (by injection e)
theorem MapIs.kept {r : Option Nat} (h : MapIs w b n D K) (hg : w.grownBy w' r) (hne : some b ≠ r) : MapIs w' b n D K := ⟨h.own.kept hg hne, h.keys, h.size⟩
theorem MapIs.below (h : MapIs w b n D K) (hb : Below w.heap.size w w') : MapIs w' b n D K := h.kept (Lnk.grown_of_below hb none) (by simp)
theorem MapIs.mono {m : Nat} (h : MapIs w b n D K) (hm : n ≤ m) : MapIs w b m D K := ⟨h.own.mono hm, h.keys, h.size⟩
theorem MapIs.empty (h : w.ownsMap Try.prog 3 (plainElem (H := Unit) Try.prog 3) b 0 (.map [])) : MapIs w b 0 (.map []) [] := ⟨h, fun id => by simp [Maps.has], rfl⟩
theorem MapIs.put {d : DataW Unit} {k : Int} (h : MapIs w b n D K) (hk : k ∉ K) (ho : w'.ownsMap Try.prog 3 (plainElem (H := Unit) Try.prog 3) b (n + 1) (D.put (.int .i64 k) d)) : MapIs w' b (n + 1) (D.put (.int .i64 k) d) (K ++ [k]) := by
  have ht := h.own.tidy keyInt
  refine ⟨ho, fun id => ?_, ?_⟩
  · by_cases e : id = k
    · subst e
      rw [has_put_same ht.isMap (keyLit _)]
      simp
    · rw [has_put_other (litNe e), h.keys]
      simp [e]
  · rw [size_put ht, h.keys, decide_eq_false hk, h.size]
    simp
theorem MapIs.del {k : Int} (h : MapIs w b n D K) (hk : k ∈ K) (hn : K.Nodup) (ho : w'.ownsMap Try.prog 3 (plainElem (H := Unit) Try.prog 3) b n (D.del (.int .i64 k))) : MapIs w' b n (D.del (.int .i64 k)) (K.erase k) := by
  have ht := h.own.tidy keyInt
  refine ⟨ho, fun id => ?_, ?_⟩
  · by_cases e : id = k
    · subst e
      rw [has_del_same]
      symm
      exact decide_eq_false (fun hm => by rw [hn.mem_erase_iff] at hm; exact hm.1 rfl)
    · rw [has_del_other (litNe e), h.keys]
      exact decide_eq_decide.2 (by rw [hn.mem_erase_iff]; exact ⟨fun hm => ⟨e, hm⟩, fun hm => hm.2⟩)
  · have h1 := size_del (k := .int .i64 k) ht
    rw [h.keys, decide_eq_true hk, h.size] at h1
    have h2 := List.length_erase_of_mem hk
    have h3 := List.length_pos_of_mem hk
    simp at h1
    omega
end

/-- the ids of what is wanted, each once -/
def stepK (pr : Ev → Bool) (K : List Int) (e : Ev) : List Int := if e.i ∈ K then K else if pr e then K ++ [e.i] else K
def fillK (pr : Ev → Bool) (l : List Ev) : List Int := l.foldl (stepK pr) []
theorem fillK_snoc (pr : Ev → Bool) (l : List Ev) (j : Nat) (h : j < l.length) : fillK pr (l.take (j + 1)) = stepK pr (fillK pr (l.take j)) l[j] := by
  unfold fillK
  rw [List.take_succ_eq_append_getElem h, List.foldl_append]
  rfl
theorem stepK_len (pr : Ev → Bool) (K : List Int) (e : Ev) : (stepK pr K e).length ≤ K.length + 1 := by
  unfold stepK
  split
  · omega
  · split <;> simp
theorem fill_mem (pr : Ev → Bool) (id : Int) : ∀ (l : List Ev) (K : List Int), id ∈ l.foldl (stepK pr) K ↔ id ∈ K ∨ ∃ e ∈ l, pr e = true ∧ e.i = id
  | [], K => by simp
  | e :: l, K => by
    rw [List.foldl_cons, fill_mem pr id l]
    unfold stepK
    constructor
    · rintro (h | ⟨x, hx, h1, h2⟩)
      · split at h
        · exact .inl h
        · split at h
          · rename_i hp
            rcases List.mem_append.1 h with h | h
            · exact .inl h
            · exact .inr ⟨e, by simp, hp, by simpa using (List.mem_singleton.1 h).symm⟩
          · exact .inl h
      · exact .inr ⟨x, List.mem_cons_of_mem _ hx, h1, h2⟩
    · rintro (h | ⟨x, hx, h1, h2⟩)
      · left
        split
        · exact h
        · split
          · exact List.mem_append_left _ h
          · exact h
      · rcases List.mem_cons.1 hx with rfl | hx
        · left
          by_cases hm : x.i ∈ K
          · rw [if_pos hm, ← h2]
            exact hm
          · rw [if_neg hm, if_pos h1, ← h2]
            simp
        · exact .inr ⟨x, hx, h1, h2⟩
theorem fillK_mem (pr : Ev → Bool) (id : Int) (l : List Ev) : id ∈ fillK pr l ↔ ∃ e ∈ l, pr e = true ∧ e.i = id := by
  unfold fillK
  rw [fill_mem]
  simp
theorem fill_nodup (pr : Ev → Bool) : ∀ (l : List Ev) (K : List Int), K.Nodup → (l.foldl (stepK pr) K).Nodup
  | [], K, h => h
  | e :: l, K, h => by
    rw [List.foldl_cons]
    refine fill_nodup pr l _ ?_
    unfold stepK
    split
    · exact h
    · rename_i hm
      split
      · rw [List.nodup_append]
        exact ⟨h, by simp, fun a ha c hc => by rw [List.mem_singleton.1 hc]; exact fun e => hm (e ▸ ha)⟩
      · exact h
theorem fillK_nodup (pr : Ev → Bool) (l : List Ev) : (fillK pr l).Nodup := fill_nodup pr l [] List.nodup_nil
theorem fillK_len (pr : Ev → Bool) : ∀ (l : List Ev) (K : List Int), (l.foldl (stepK pr) K).length ≤ K.length + l.length
  | [], K => by simp
  | e :: l, K => by
    rw [List.foldl_cons]
    have h1 := fillK_len pr l (stepK pr K e)
    have h2 := stepK_len pr K e
    simp
    omega
/-- the place of the first that is wanted with this id -/
def firstI (pr : Ev → Bool) (id : Int) (l : List Ev) : Nat := l.findIdx (fun e => pr e && e.i == id)
theorem firstI_stay (pr : Ev → Bool) (id : Int) (l : List Ev) (j : Nat) (h : j < l.length) (hm : id ∈ fillK pr (l.take j)) : firstI pr id (l.take (j + 1)) = firstI pr id (l.take j) := by
  unfold firstI
  obtain ⟨e, he, h1, h2⟩ := (fillK_mem pr id _).1 hm
  rw [List.take_succ_eq_append_getElem h, List.findIdx_append]
  rw [if_pos (List.findIdx_lt_length_of_exists ⟨e, he, by simp [h1, h2]⟩)]
theorem firstI_new (pr : Ev → Bool) (id : Int) (l : List Ev) (j : Nat) (h : j < l.length) (hm : id ∉ fillK pr (l.take j)) (hp : pr l[j] = true) (hi : l[j].i = id) : firstI pr id (l.take (j + 1)) = j := by
  unfold firstI
  have hno : ∀ e ∈ l.take j, ¬ (pr e && e.i == id) = true := fun e he h1 => hm ((fillK_mem pr id _).2 ⟨e, he, by simpa using h1⟩)
  rw [List.take_succ_eq_append_getElem h, List.findIdx_append]
  rw [List.findIdx_eq_length_of_false (fun e he => by simpa using hno e he)]
  simp [hp, hi]
  omega
end Go.Proofs.Ytecfomaapomncaa.Gat
