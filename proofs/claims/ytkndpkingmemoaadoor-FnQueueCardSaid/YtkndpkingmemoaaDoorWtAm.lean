/-
  A gate in which all messages wait and nothing flies is right.
-/
import Derived.Test.YtkndpkingmemoaaDoorMgy
import Derived.Test.YtkndpkingmemoaaDoorMgj
namespace Go.Proofs.YtkndpkingmemoaaDoor.Gat
open Go.RowKit Go.Proofs.YtkndpkingmemoaaDoor.Kit
set_option linter.unusedVariables false
set_option linter.unusedSimpArgs false

/-- message k of those that wait -/
def WEv (de : Int) (k : Nat) (e : Ev) : Prop := ∃ (d : Int) (b : ByteArray) (t : Int), e = ⟨(k : Int) + 1, d, 1, b, 0, t, 0, 0, 0⟩ ∧ 1 ≤ d ∧ d ≤ de ∧ b.size ≤ 40 ∧ 1 ≤ t ∧ t ≤ 1000000
theorem wev_s {de : Int} {k : Nat} {e : Ev} (h : WEv de k e) : e.s = 0 := by
  obtain ⟨d, b, t, rfl, _⟩ := h
  rfl
theorem cnt_wait {de : Int} {E : List Ev} (h : ∀ k, (hk : k < E.length) → WEv de k E[k]) (d s : Int) (hs : s ≠ 0) : cntN d s E = 0 := by
  unfold cntN
  rw [List.countP_eq_zero]
  intro e he
  obtain ⟨k, hk, rfl⟩ := List.getElem_of_mem he
  have h1 := wev_s (h k hk)
  unfold isDS
  rw [h1]
  simp
  intro _
  omega
theorem dead_wait {de : Int} {E : List Ev} (h : ∀ k, (hk : k < E.length) → WEv de k E[k]) : ∀ m, deadN E m = 0
  | 0 => rfl
  | m + 1 => by unfold deadN; rw [dead_wait h m, cnt_wait h _ _ (by decide)]
theorem over_none {K : List Lk} (h : ∀ k ∈ K, k.l = []) (d : Int) : overL K d = [] := by
  unfold overL
  rw [List.getD_eq_getElem?_getD]
  cases hq : K[(d - 1).toNat]? with
  | none => rfl
  | some q => simp [h q (List.mem_of_getElem? hq), Lnk.idsL]
theorem gok_wait {n : Nat} {qu wi ti qa bu le pb pc pj : Int} (hc : CfgL (n : Int) qu wi ti qa bu le pb pc pj) {E : List Ev} {K : List Lk} (hE : ∀ k, (hk : k < E.length) → WEv n k E[k]) (hlen : E.length ≤ 60) (hK : K.length = n)
    (hKl : ∀ k ∈ K, Lnk.LOk k.up k.ep k.sq k.l ∧ k.l = []) (hq : ∀ d : Int, (openN d E : Int) ≤ qu) :
    gokB (n : Int) qu wi ti qa bu le pb pc pj 1000 0 (E.length : Int) E.length n 0 n 0 (E.length : Int) 0 0 E K (List.replicate n 0) [] = true := by
  have hn := hc.1
  have hle := hc.2.2.2.2.2.2.1
  have hwi := hc.2.2.1
  refine gokB_of ⟨fun _ => ⟨hc.ok, by omega, by omega, ⟨rfl, rfl, fun k h h2 => ?_⟩, ⟨hlen, fun k h => ?_⟩, by omega, ⟨by omega, ?_⟩, by omega, by omega, by omega, by omega⟩, fun _ => rfl⟩
  · have h1 := hKl K[k] (List.getElem_mem h)
    refine ⟨h1.1, by rw [h1.2]; simp; omega, ?_, hq _, ?_⟩
    · rw [List.getElem_replicate]; omega
    · rw [h1.2, cnt_wait hE _ _ (by decide)]; rfl
  · obtain ⟨d, b, t, he, hd1, hd2, hb, ht1, ht2⟩ := hE k h
    rw [he]
    refine ⟨⟨?_, ?_, ?_, hd2, Int.le_refl 0⟩, ?_, ?_⟩
    · unfold Evt.EOk
      dsimp only
      omega
    · cases k with
      | zero => show (0 : Int) < 0 + 1; omega
      | succ m =>
        have hm : m < E.length := by omega
        obtain ⟨d', b', t', he', _⟩ := hE m hm
        show (E.getD m ev0).i < _
        rw [List.getD_eq_getElem?_getD, List.getElem?_eq_getElem hm, Option.getD_some, he']
        dsimp only
        omega
    · dsimp only; omega
    · rw [over_none (fun k hk => (hKl k hk).2)]
      simp [hasB]
    · simp [hasB]
  · rw [dead_wait hE]
end Go.Proofs.YtkndpkingmemoaaDoor.Gat
