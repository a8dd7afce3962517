/-
  The program's Connect and Disconnect.
-/
import Derived.Test.YtkndpkingmemoaaGreatDoorMgm
import Derived.Shelf.Abstract
namespace Go.Proofs.YtkndpkingmemoaaGreatDoor.Gat
open Go.RowKit
open Lnk (bOne bAfter IOwn IIs YOwn YIs below_keep below_drew' bcell low_after low_alloc grown_of_below joU joE joS joL joI leU leL leI)
set_option linter.unusedVariables false
set_option linter.unusedSimpArgs false

theorem bk_twice (s : Int) : Evt.bk (Evt.bk s) = Evt.bk s := by unfold Evt.bk; split <;> simp_all
theorem bkE_twice (e : Ev) : bkE (bkE e) = bkE e := by unfold bkE; simp [bk_twice]
def bk1 (id : Int) (e : Ev) : Ev := if e.i = id then bkE e else e
theorem bk1_id (id : Int) (e : Ev) : (bk1 id e).i = e.i := by unfold bk1; split <;> rfl
theorem inj_map {E : List Ev} (h : Inj E) (f : Ev → Ev) (hf : ∀ e, (f e).i = e.i) : Inj (E.map f) := by
  intro a b ha hb e
  rw [List.length_map] at ha hb
  rw [List.getElem_map, List.getElem_map, hf, hf] at e
  exact h a b ha hb e
theorem back1_eq {E : List Ev} (h : Inj E) (id : Int) : back1 E id = E.map (bk1 id) := by
  rcases at_range id E with ⟨h1, h2⟩ | ⟨k, hk, h1, h2⟩
  · rw [h2]
    have hno : E.any (isI id) = false := by
      cases hq : E.any (isI id) with
      | false => rfl
      | true => unfold atI at h1; rw [if_pos hq] at h1; omega
    symm
    have : E.map (bk1 id) = E.map (fun e => e) := List.map_congr_left fun e he => by
      unfold bk1
      rw [if_neg]
      intro hi
      have := List.any_eq_false.1 hno e he
      simp [isI, hi] at this
    rw [this, List.map_id']
  · rw [h2]
    have hi : E[k].i = id := by
      unfold atI at h1
      by_cases hq : E.any (isI id) = true
      · rw [if_pos hq] at h1
        have e1 : E.findIdx (isI id) = k := by omega
        have e2 : E.findIdx (isI id) < E.length := by omega
        have := List.findIdx_getElem (w := e2)
        simp only [e1] at this
        simpa [isI] using this
      · rw [if_neg hq] at h1; omega
    apply List.ext_getElem
    · simp
    · intro j hj hj'
      rw [List.length_set] at hj
      rw [List.getElem_set, List.getElem_map]
      by_cases e : k = j
      · subst e
        rw [if_pos rfl]
        unfold bk1
        rw [if_pos hi]
      · rw [if_neg e]
        unfold bk1
        rw [if_neg]
        intro hc
        exact e (h k j hk hj (by rw [hi, hc]))
theorem backE_eq : ∀ (ids : List Int) {E : List Ev}, Inj E → backE E ids = mapB ids E
  | [], E, _ => by
    unfold mapB
    have : E.map (bkI []) = E.map (fun e => e) := List.map_congr_left fun e he => by unfold bkI; rw [hasI_no (by simp)]; rfl
    rw [this, List.map_id']
    rfl
  | x :: ids, E, h => by
    show backE (back1 E x) ids = _
    rw [back1_eq h, backE_eq ids (inj_map h _ (bk1_id x))]
    unfold mapB
    rw [List.map_map]
    refine List.map_congr_left fun e he => ?_
    show bkI ids (bk1 x e) = bkI (x :: ids) e
    unfold bk1
    by_cases hx : e.i = x
    · rw [if_pos hx]
      have e2 : bkI (x :: ids) e = bkE e := by unfold bkI; rw [hasI_yes (by rw [hx]; simp)]; rfl
      rw [e2]
      unfold bkI
      split
      · exact bkE_twice e
      · rfl
    · rw [if_neg hx]
      unfold bkI
      have e3 : hasI (x :: ids) e.i = hasI ids e.i := by unfold hasI; simp [hx]
      rw [e3]
theorem relE_eq {E : List Ev} (h : Inj E) (I : Lk → List Int) (ok : Bool) (K : List Lk) (d : Int) : relE I ok K E d = conE I ok K E d := by
  unfold relE conE
  split
  · exact (backE_eq _ h).symm
  · rfl
theorem conE_len (I : Lk → List Int) (ok : Bool) (K : List Lk) (E : List Ev) (d : Int) : (conE I ok K E d).length = E.length := by
  unfold conE
  split
  · exact backE_len _ _
  · rfl
theorem conK_len (J : Lk → Lk) (ok : Bool) (K : List Lk) (d : Int) : (conK J ok K d).length = K.length := by
  unfold conK
  split
  · exact List.length_set
  · rfl
theorem sizeKeep : (Tryz.prog.info? 72).map (·.size) = some 21 := by kernel_rfl

theorem gok_inj {de qu wi ti qa bu le pb pc pj pt nw la : Int} {en kn : Nat} {tu : Int} {fn rn : Nat} {tk ac dr : Int} {E : List Ev} {K : List Lk} {F R : List Int} (h : gokB de qu wi ti qa bu le pb pc pj pt nw la en kn tu fn rn tk ac dr E K F R = true) : Inj E := by
  have h1 := (gokB_true h).2.2.2.2.1.2
  exact inj_of fun k hk => (h1 k hk).1.2.1
theorem gok_kd {de qu wi ti qa bu le pb pc pj pt nw la : Int} {en kn : Nat} {tu : Int} {fn rn : Nat} {tk ac dr : Int} {E : List Ev} {K : List Lk} {F R : List Int} (h : gokB de qu wi ti qa bu le pb pc pj pt nw la en kn tu fn rn tk ac dr E K F R = true) : (kn : Int) = de ∧ de ≤ 1000 := by
  have h1 := gokB_true h
  have h2 := h1.1
  unfold CfgOk at h2
  exact ⟨h1.2.2.2.1.1, by omega⟩

end Go.Proofs.YtkndpkingmemoaaGreatDoor.Gat
