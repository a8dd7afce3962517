/-
  A row of timers, sorted by compareTimers.
-/
import Derived.Test.YtkoliacbajpijaaDoorSort
import Derived.Test.YtkoliacbajpijaaDoorCmpW
import Derived.Test.YtkoliacbajpijaaDoorMkA
namespace Go.Proofs.YtkoliacbajpijaaDoor.Whl
open Go.RowKit Go.Shelf Go.Sort Go.Lib
set_option linter.unusedVariables false

def encT (x : T) : List Value := [.int .i64 x.1, .int .i64 x.2]
theorem flatK_get (d : List T) (j : Nat) (hj : j < d.length * 2) : (flat d)[j]? = some ((flatK encT 2 d.toArray)[j]!) := by
  rw [get_flatK _ _ _ _ (by simpa using hj)]
  have hk : j / 2 < d.length := by omega
  have hg := flat_get d (j / 2) hk
  have e : d.toArray[j / 2]! = d[j / 2] := by
    rw [getElem!_pos d.toArray (j / 2) (by simpa using hk)]; simp
  rw [e]
  have h2 : j % 2 = 0 ∨ j % 2 = 1 := by omega
  rcases h2 with h2 | h2
  · have e2 : j / 2 * 2 = j := by omega
    have h1 := hg.1
    rw [e2] at h1
    rw [h2, h1]; rfl
  · have e2 : j / 2 * 2 + 1 = j := by omega
    have h1 := hg.2
    rw [e2] at h1
    rw [h2, h1]; rfl
theorem flatK_toList (d : List T) : (flatK encT 2 d.toArray).toList = flat d := by
  apply List.ext_getElem?
  intro j
  by_cases hj : j < d.length * 2
  · rw [flatK_get d j hj, Array.getElem?_toList, Array.getElem?_eq_getElem (by simpa using hj), getElem!_pos _ j (by simpa using hj)]
  · rw [List.getElem?_eq_none (by simp; omega), List.getElem?_eq_none (by rw [flat_len]; omega)]
theorem own_holds {B : Nat} {w : World} {E : TypeId} {g n cap : Nat} {d : List T} (h : TOwn B w E (.slice (some ⟨g, 0, none⟩) n cap) d) : HoldsK encT 2 w g 0 d.toArray := by
  intro j hj
  have hj' : j < d.length * 2 := by simpa using hj
  have hn := h.is.1
  subst hn
  unfold TOwn at h
  refine ⟨?_, by rw [Nat.zero_add]; exact h.frozenAt j⟩
  rw [Nat.zero_add, h.cellAt j hj', flatK_get d j hj']
  rfl
theorem take_putCells (cur : Array Value) (F : Array Value) (h : F.size ≤ cur.size) : (putCells id 0 F cur).toList.take F.size = F.toList := by
  apply List.ext_getElem?
  intro j
  by_cases hj : j < F.size
  · rw [List.getElem?_take_of_lt hj, Array.getElem?_toList]
    simp [putCells, hj, show j < cur.size by omega]
  · rw [List.getElem?_eq_none (by simp; omega), List.getElem?_eq_none (by simpa using hj)]
theorem grownBy_sortedT {w : World} {g n : Nat} {os : Array Obj} (d : Array T) : w.grownBy (sortWorldK encT 2 w g 0 n d os) (some g) := by
  refine ⟨rfl, rfl, rfl, by simp [sortWorldK, grow, putRowK, putRow, mapBlock, Sort.ahead], fun k hk hne => ?_⟩
  have : g ≠ k := fun e => hne (by rw [e])
  unfold sortWorldK putRowK putRow mapBlock grow
  show (_ ++ os)[k]? = _
  rw [Array.getElem?_append_left (by simpa [Sort.ahead] using hk)]
  simp [Sort.ahead, Array.getElem?_modify, this]
theorem own_sorted {B : Nat} {w : World} {E : TypeId} {g n cap m : Nat} {os : Array Obj} {d d' : List T} (h : TOwn B w E (.slice (some ⟨g, 0, none⟩) n cap) d) (hl : d'.length = d.length) :
    TOwn B (sortWorldK encT 2 w g 0 m d'.toArray os) E (.slice (some ⟨g, 0, none⟩) n cap) d' := by
  have hn := h.is.1
  subst hn
  have hlt := (h.lt g rfl).2
  unfold TOwn at h ⊢
  rcases h.2 with ⟨e, _⟩ | ⟨g', cap', cur, e, hb, hg, h1, h2, h3, h4⟩
  · simp at e
  · simp only [Value.slice.injEq, Option.some.injEq, Addr.mk.injEq, and_true, true_and] at e
    obtain ⟨rfl, rfl⟩ := e
    have hsz : (flatK encT 2 d'.toArray).size ≤ cur.size := by simp; omega
    refine ⟨by rw [flat_len], .inr ⟨g, cap, putCells id 0 (flatK encT 2 d'.toArray) cur, by rw [hl], hb, ?_, by omega, h2, by simp [putCells, h3], ?_⟩⟩
    · unfold sortWorldK putRowK putRow mapBlock grow
      show (_ ++ os)[g]? = _
      rw [Array.getElem?_append_left (by simpa [Sort.ahead] using hlt)]
      simp [Sort.ahead, Array.getElem?_modify, hg, onCells]
    · have := take_putCells cur (flatK encT 2 d'.toArray) hsz
      rw [flatK_toList] at this
      simpa using this

theorem ltOf_cmpT (x y : T) : ltOf cmpT x y = decide (ahd x y) := by
  unfold ltOf
  by_cases h : ahd x y
  · rw [decide_eq_true h, decide_eq_true ((cmpT_lt x y).2 h)]
  · rw [decide_eq_false h, decide_eq_false (fun hc => h ((cmpT_lt x y).1 hc))]
theorem swoT : SWO (ltOf cmpT) where
  irrefl x := by rw [ltOf_cmpT]; simpa using ahd_irrefl x
  trans x y z h1 h2 := by rw [ltOf_cmpT] at *; simp at *; exact ahd_trans h1 h2
  ntrans x y z h1 h2 := by
    rw [ltOf_cmpT] at *
    simp at *
    unfold ahd at *
    omega
theorem cmpLaysT (blk off size : Nat) (w : World) : CmpLays Tryd.prog 49 #[] encT 2 cmpT blk off size w :=
  fun _ _ _ _ x y => (compareTimers_any x.1 x.2 y.1 y.2 _).mono fun _ _ ⟨he, n, os, hw⟩ => ⟨he, n, os, hw⟩
theorem isAggT : ∀ w, (isAgg 28).run Tryd.prog w = .ok true w := fun w => by kernel_rfl
theorem sizeOfT : ∀ w, (Go.sizeOf 28).run Tryd.prog w = .ok 2 w := fun w => by kernel_rfl

theorem sort_any (B : Nat) (w : World) (g cap : Nat) (d : List T) (h : TOwn B w 28 (.slice (some ⟨g, 0, none⟩) d.length cap) d) (hd : d.length ≤ 1000000) :
    Calls Tryd.prog 72 #[.slice (some ⟨g, 0, none⟩) d.length cap, .func (.func 49) #[] #[]] w fun e w' =>
      e = .returned (.tuple #[]) ∧ (∃ d' : List T, d'.length = d.length ∧ d'.Perm d ∧ d'.Pairwise (fun x y => ¬ ahd y x) ∧ TOwn B w' 28 (.slice (some ⟨g, 0, none⟩) d.length cap) d') ∧ w.grownBy w' (some g) := by
  have eg : ∀ args w, (callFunc 49 args).run Tryd.prog w = .ok (.enter 49 args) w := enters_of Tryd.func49 (by kernel_rfl) rfl
  have hcon := AnyQ.slices_SortFunc_total Tryd.sortT 2 isAggT sizeOfT encT (fun _ => rfl) (fun x v hv => by simp [encT] at hv; rcases hv with rfl | rfl <;> rfl) cmpT swoT 49 #[] g 0 cap d.toArray w eg (cmpLaysT g 0 _ w) (own_holds h) (h.lt g rfl).2 (by simp; omega)
    (fun x y h1 h2 => by
      rw [ltOf_cmpT] at h1 h2
      have h1 : ¬ ahd x y := by simpa using h1
      have h2 : ¬ ahd y x := by simpa using h2
      by_cases e : x = y
      · exact e
      · exact absurd (ahd_total e) (by rintro (h | h); exact h1 h; exact h2 h))
  have hcon' : Calls Tryd.prog 72 #[.slice (some ⟨g, 0, none⟩) d.length cap, .func (.func 49) #[] #[]] w fun e w' =>
      e = .returned (.tuple #[]) ∧ ∃ n os, w' = sortWorldK encT 2 w g 0 n (d.mergeSort fun x y => !(ltOf cmpT) y x).toArray os := by
    have := hcon
    simp only [List.size_toArray] at this
    exact this
  refine hcon'.mono ?_
  rintro e w' ⟨rfl, n, os, rfl⟩
  have hp := List.mergeSort_perm d (fun x y => !(ltOf cmpT) y x)
  refine ⟨rfl, ⟨_, hp.length_eq, hp, ?_, own_sorted h hp.length_eq⟩, grownBy_sortedT _⟩
  have hs := List.pairwise_mergeSort (le := fun x y => !(ltOf cmpT) y x) (fun a b c h1 h2 => by
    rw [ltOf_cmpT] at *
    simp at *
    unfold ahd at *
    omega) (fun a b => by
    rw [ltOf_cmpT, ltOf_cmpT]
    simp
    unfold ahd
    omega) d
  exact hs.imp (fun {a b} h => by rw [ltOf_cmpT] at h; simpa using h)
end Go.Proofs.YtkoliacbajpijaaDoor.Whl
