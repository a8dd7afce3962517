/-
  The wheel's slots in memory, as a whole: take, first, begin, release, and a new time.
-/
import Derived.Test.YtkoliacbajpijaaDoorWstA
namespace Go.Proofs.YtkoliacbajpijaaDoor.Whl
open Go.RowKit Go.Maps
set_option linter.unusedVariables false

def nilV : Value := .slice none 0 0
section
variable {B : Nat} {w w' : World} {b bm : Nat} {now : Int} {f : Nat → Nat → List T} {v : Nat → Nat → Value} {n : Nat} {D : DataW Unit}
theorem WstE.below (h : WstE B w b bm now f v n D) (hb : Below w.heap.size w w') : WstE B w' b bm now f v n D := by
  obtain ⟨C, Fr, m, h⟩ := h
  exact ⟨C, Fr, m, h.below hb⟩
theorem WstE.grown (h : WstE B w b bm now f v n D) {r : Option Nat} (hg : w.grownBy w' r) (hr : ∀ k, r = some k → Far b bm v k) : WstE B w' b bm now f v n D := by
  obtain ⟨C, Fr, m, h⟩ := h
  exact ⟨C, Fr, m, h.grown hg hr⟩
theorem WstE.hB (h : WstE B w b bm now f v n D) : B ≤ w.heap.size := by obtain ⟨C, Fr, m, h⟩ := h; exact h.hB
theorem WstE.blt (h : WstE B w b bm now f v n D) : b < w.heap.size := by obtain ⟨C, Fr, m, h⟩ := h; exact h.sb.lt
theorem WstE.own (h : WstE B w b bm now f v n D) (l s : Nat) (hl : l < 5) (hs : s < 64) : TOwn B w 28 (v l s) (f l s) := by obtain ⟨C, Fr, m, h⟩ := h; exact h.own l s hl hs
theorem WstE.far_new (h : WstE B w b bm now f v n D) {k : Nat} (hk : w.heap.size ≤ k) : Far b bm v k := by obtain ⟨C, Fr, m, h⟩ := h; exact h.far_new hk
theorem WstE.vlt (h : WstE B w b bm now f v n D) {l s : Nat} (hl : l < 5) (hs : s < 64) {g : Nat} (hg : (v l s).ownBlock = some g) : B ≤ g ∧ g < w.heap.size := by obtain ⟨C, Fr, m, h⟩ := h; exact h.lt hl hs hg
theorem WstE.vne (h : WstE B w b bm now f v n D) {l s : Nat} (hl : l < 5) (hs : s < 64) {g : Nat} (hg : (v l s).ownBlock = some g) : g ≠ b ∧ g ≠ bm := by
  obtain ⟨C, Fr, m, h⟩ := h
  exact ⟨fun e => h.nb l s hl hs (e ▸ hg), fun e => h.nm hl hs (e ▸ hg)⟩
theorem WstE.nowCell (h : WstE B w b bm now f v n D) : w.cell? ⟨b, 0, none⟩ = some (.int .i64 now) ∧ w.frozen? ⟨b, 0, none⟩ = false := by
  obtain ⟨C, Fr, m, h⟩ := h
  exact ⟨(h.sb.cell 0).trans h.now0, (h.sb.fro 0).trans (h.fr 0 (by omega))⟩
theorem WstE.atsCell (h : WstE B w b bm now f v n D) : w.cell? ⟨b, 326, none⟩ = some (.map (some bm)) := by
  obtain ⟨C, Fr, m, h⟩ := h
  exact (h.sb.cell 326).trans h.ats
theorem WstE.ownMap (h : WstE B w b bm now f v n D) : w.ownsMap Tryd.prog 3 (plainElem Tryd.prog 3) bm n D := by obtain ⟨C, Fr, m, h⟩ := h; exact h.map
theorem WstE.bmb (h : WstE B w b bm now f v n D) : bm ≠ b := by obtain ⟨C, Fr, m, h⟩ := h; exact h.bmb
/-- the map was written -/
theorem WstE.newMap {n' : Nat} {D' : DataW Unit} (h : WstE B w b bm now f v n D) (hmap : w'.ownsMap Tryd.prog 3 (plainElem Tryd.prog 3) bm n' D') (hg : w.grownBy w' (some bm)) : WstE B w' b bm now f v n' D' := by
  obtain ⟨C, Fr, m, h⟩ := h
  exact ⟨C, Fr, m, ⟨h.sb.grown hg (by simpa using h.bmb), h.fr, h.now0, h.busy, h.slot, fun l s hl hs => (h.own l s hl hs).grown hg (.inr (h.nm hl hs)), h.nb, h.apart, h.ats, hmap, h.bmb, Nat.le_trans h.hB hg.size⟩⟩
/-- a new time -/
theorem WstE.setNow (h : WstE B w b bm now f v n D) (n' : Int) : WstE B (w.setCell ⟨b, 0, none⟩ (.int .i64 n')) b bm n' f v n D := by
  obtain ⟨C, Fr, m, h⟩ := h
  have hg := setCell_grown w b 0 (.int .i64 n')
  refine ⟨upd C 0 (some (.int .i64 n')), Fr, m, ?_⟩
  constructor
  · exact h.sb.store 0 _ _ h.now0
  · exact h.fr
  · exact upd_same _ _ _
  · intro l hl
    rw [upd_other _ _ (by omega)]
    exact h.busy l hl
  · intro l s hl hs
    rw [upd_other _ _ (by omega)]
    exact h.slot l s hl hs
  · intro l s hl hs
    exact (h.own l s hl hs).grown hg (.inr (h.nb l s hl hs))
  · exact h.nb
  · exact h.apart
  · rw [upd_other _ _ (by omega)]; exact h.ats
  · exact h.map.kept hg (by simpa using h.bmb)
  · exact h.bmb
  · exact Nat.le_trans h.hB hg.size
end
theorem kpv_b {w w' : World} {b bm : Nat} (v v' : Nat → Nat → Value) (hg : w.grownBy w' (some b)) (hv : ∀ l s, l < 5 → s < 64 → ∀ g, (v' l s).ownBlock = some g → ∃ i j, i < 5 ∧ j < 64 ∧ (v i j).ownBlock = some g) : KpV w w' b bm v v' :=
  ⟨hg.os, hg.tape, hg.output, hg.size, fun k hk hf => hg.block k hk (by simpa using hf.1), fun l s hl hs g e => .inl (hv l s hl hs g e)⟩
theorem KpV.kp {w w1 w2 : World} {b bm g : Nat} {v v1 : Nat → Nat → Value} (h : KpV w w1 b bm v v1) (hk : Kp w1 w2 b bm (some g)) (hg : g < w.heap.size → ∃ i j, i < 5 ∧ j < 64 ∧ (v i j).ownBlock = some g) : KpV w w2 b bm v v1 :=
  ⟨hk.os.trans h.os, hk.tape.trans h.tape, hk.output.trans h.output, Nat.le_trans h.size hk.size, fun k hlt hf =>
    (hk.block k (Nat.lt_of_lt_of_le hlt h.size) hf.1 hf.2.1 (fun e => by
      injection e with e
      subst e
      obtain ⟨i, j, hi, hj, e2⟩ := hg hlt
      exact hf.2.2 i j hi hj e2)).trans (h.block k hlt hf), h.vs⟩

theorem take_st {B : Nat} {w : World} {b bm : Nat} {now : Int} {f : Nat → Nat → List T} {v : Nat → Nat → Value} {n : Nat} {D : DataW Unit} (h : WstE B w b bm now f v n D) (l s : Nat) (hl5 : l < 5) (hs64 : s < 64) :
    Calls Tryd.prog 62 #[.pointer (some ⟨b, 0, none⟩), .int .i64 (l : Int), .int .i64 (s : Int)] w fun e w' => e = .returned (v l s) ∧
      WstE B w' b bm now (upd2 f l s []) (upd2 v l s nilV) n D ∧ w.grownBy w' (some b) := by
  obtain ⟨C, Fr, m, h⟩ := h
  obtain ⟨hb1, hb2, hb3⟩ := h.busy l hl5
  have hsh : ∃ a n c, v l s = .slice a n c := by
    obtain ⟨a, c, e⟩ := (h.own l s hl5 hs64).shape
    exact ⟨a, _, c, e⟩
  refine (take_walk w b C Fr l s (m l) (v l s) (by omega) (by omega) h.sb hb1 (h.fr _ (by omega)) (h.slot l s hl5 hs64) (h.fr _ (by omega)) hsh).mono ?_
  rintro e w' ⟨rfl, hsb, hg⟩
  obtain ⟨hw1, hw2⟩ := wrap_pow s hs64
  rw [hw1] at hsb
  obtain ⟨c, hc1, hc2, hc3⟩ := andNot_u64 (m l) (2 ^ s) hb2 hw2
  rw [hc1] at hsb
  refine ⟨rfl, ⟨upd (upd C (6 + l * 64 + s) (some (.slice none 0 0))) (1 + l) (some (.int .u64 (c : Int))), Fr, upd m l c, ?_⟩, hg⟩
  constructor
  · exact hsb
  · exact h.fr
  · rw [upd_other _ _ (by omega), upd_other _ _ (by omega)]; exact h.now0
  · intro i hi
    by_cases e : i = l
    · subst e
      rw [upd_same, upd_same]
      refine ⟨rfl, hc2, fun k hk => ?_⟩
      rw [hc3 k hk, hb3 k hk, Nat.testBit_two_pow]
      by_cases e2 : k = s
      · subst e2; rw [upd2_same]; simp
      · rw [upd2_other _ _ (by omega)]
        simp [Ne.symm e2]
    · rw [upd_other _ _ (by omega), upd_other _ _ (by omega), upd_other _ _ e]
      obtain ⟨q1, q2, q3⟩ := h.busy i hi
      exact ⟨q1, q2, fun k hk => by rw [upd2_other _ _ (by omega)]; exact q3 k hk⟩
  · intro i j hi hj
    rw [upd_other _ _ (by omega)]
    by_cases e : i = l ∧ j = s
    · obtain ⟨rfl, rfl⟩ := e
      rw [upd_same, upd2_same]
      rfl
    · rw [upd_other _ _ (idx_ne hs64 hj e), upd2_other _ _ e]
      exact h.slot i j hi hj
  · intro i j hi hj
    by_cases e : i = l ∧ j = s
    · obtain ⟨rfl, rfl⟩ := e
      rw [upd2_same, upd2_same]
      exact World.ownsRow_nil _ _ _ _
    · rw [upd2_other _ _ e, upd2_other _ _ e]
      exact (h.own i j hi hj).grown hg (.inr (h.nb i j hi hj))
  · intro i j hi hj
    by_cases e : i = l ∧ j = s
    · obtain ⟨rfl, rfl⟩ := e
      rw [upd2_same]
      simp [nilV, Value.ownBlock]
    · rw [upd2_other _ _ e]
      exact h.nb i j hi hj
  · intro i j i' j' hi hj hi' hj' hne k hk
    by_cases e : i = l ∧ j = s
    · obtain ⟨rfl, rfl⟩ := e
      rw [upd2_same] at hk
      simp [nilV, Value.ownBlock] at hk
    · rw [upd2_other _ _ e] at hk
      by_cases e' : i' = l ∧ j' = s
      · obtain ⟨rfl, rfl⟩ := e'
        rw [upd2_same]
        simp [nilV, Value.ownBlock]
      · rw [upd2_other _ _ e']
        exact h.apart i j i' j' hi hj hi' hj' hne k hk
  · rw [upd_other _ _ (by omega), upd_other _ _ (by omega)]; exact h.ats
  · exact h.map.kept hg (by simpa using h.bmb)
  · exact h.bmb
  · exact Nat.le_trans h.hB hg.size
theorem take_kpv {w w' : World} {b bm : Nat} (v : Nat → Nat → Value) (l s : Nat) (hg : w.grownBy w' (some b)) : KpV w w' b bm v (upd2 v l s nilV) :=
  kpv_b _ _ hg (fun i j hi hj g e => by
    by_cases e2 : i = l ∧ j = s
    · obtain ⟨rfl, rfl⟩ := e2
      rw [upd2_same] at e
      simp [nilV, Value.ownBlock] at e
    · rw [upd2_other _ _ e2] at e
      exact ⟨i, j, hi, hj, e⟩)
/-- what was taken is none of the slots' -/
theorem WstE.taken_far {B : Nat} {w : World} {b bm : Nat} {now : Int} {f : Nat → Nat → List T} {v : Nat → Nat → Value} {n : Nat} {D : DataW Unit} (h : WstE B w b bm now f v n D) (l s : Nat) (hl5 : l < 5) (hs64 : s < 64) {g : Nat} (hg : (v l s).ownBlock = some g) : Far b bm (upd2 v l s nilV) g := by
  obtain ⟨C, Fr, m, h⟩ := h
  refine ⟨fun e => h.nb l s hl5 hs64 (e ▸ hg), fun e => h.nm hl5 hs64 (e ▸ hg), fun i j hi hj e => ?_⟩
  by_cases e2 : i = l ∧ j = s
  · obtain ⟨rfl, rfl⟩ := e2
    rw [upd2_same] at e
    simp [nilV, Value.ownBlock] at e
  · rw [upd2_other _ _ e2] at e
    exact h.apart l s i j hl5 hs64 hi hj e2 g hg e

def FirstSt (f : Nat → Nat → List T) (e : Ending) : Prop :=
  (∃ l s, Fst f l s ∧ e = .returned (.tuple #[.int .i64 (l : Nat), .int .i64 (s : Nat), .bool true])) ∨ ((∀ l s, l < 5 → s < 64 → f l s = []) ∧ e = .returned (.tuple #[.int .i64 0, .int .i64 0, .bool false]))
theorem first_st {B : Nat} {w : World} {b bm : Nat} {now : Int} {f : Nat → Nat → List T} {v : Nat → Nat → Value} {n : Nat} {D : DataW Unit} (h : WstE B w b bm now f v n D) (hT : TabD w) :
    Calls Tryd.prog 66 #[.pointer (some ⟨b, 0, none⟩)] w fun e w' => FirstSt f e ∧ w = w' := by
  obtain ⟨C, Fr, m, h⟩ := h
  have hz : ∀ l, l < 5 → m l = 0 → ∀ s, s < 64 → f l s = [] := fun l hl e s hs => by
    have := (h.busy l hl).2.2 s hs
    rw [e, Nat.zero_testBit] at this
    simpa using this.symm
  refine (first_walk w b m (fun l hl => (h.sb.cell _).trans (h.busy l hl).1) (fun l hl => (h.busy l hl).2.1) hT).mono ?_
  rintro e w' ⟨hp, rfl⟩
  refine ⟨?_, rfl⟩
  rcases hp with ⟨l, hl, hne, hlo, rfl⟩ | ⟨hall, rfl⟩
  · obtain ⟨c1, c2, c3⟩ := ctz_spec (m l) hne (h.busy l hl).2.1
    refine .inl ⟨l, Lib.ctz 64 (m l), ⟨hl, c1, ?_, fun j k hj hk => hz j (by omega) (hlo j hj) k hk, fun k hk => ?_⟩, rfl⟩
    · have := (h.busy l hl).2.2 _ c1
      rw [c2] at this
      simpa using this.symm
    · have := (h.busy l hl).2.2 k (by omega)
      rw [c3 k hk] at this
      simpa using this.symm
  · exact .inr ⟨fun l s hl hs => hz l hl (hall l hl) s hs, rfl⟩
theorem begin_st {B : Nat} {w : World} {b bm : Nat} {now : Int} {f : Nat → Nat → List T} {v : Nat → Nat → Value} {n : Nat} {D : DataW Unit} (h : WstE B w b bm now f v n D) (n0 : 0 ≤ now) (n1 : now ≤ 1000000000) (l s : Nat) (hl5 : l < 5) (hs64 : s < 64) :
    Calls Tryd.prog 67 #[.pointer (some ⟨b, 0, none⟩), .int .i64 (l : Int), .int .i64 (s : Int)] w fun e w' => e = .returned (.int .i64 (bgn now l (s : Int))) ∧ ∃ n, w' = w.drewN n := by
  obtain ⟨k, rfl⟩ := Int.eq_ofNat_of_zero_le n0
  exact begin_walk w b k s l (by omega) hs64 (by omega) h.nowCell.1
theorem release_st {B : Nat} {w : World} {b bm : Nat} {now : Int} {f : Nat → Nat → List T} {v : Nat → Nat → Value} {n : Nat} {D : DataW Unit} (h : WstE B w b bm now f v n D) (g cap : Nat) (d : List T)
    (hown : TOwn B w 28 (.slice (some ⟨g, 0, none⟩) d.length cap) d) (hfar : Far b bm v g) (hd : d.length ≤ 1000000) (hid : ∀ t ∈ d, 1 ≤ t.2 ∧ t.2 ≤ 9999) :
    Calls Tryd.prog 68 #[.pointer (some ⟨b, 0, none⟩), .slice (some ⟨g, 0, none⟩) d.length cap] w fun e w' => e = .returned (.slice (some ⟨g, 0, none⟩) d.length cap) ∧
      WstE B w' b bm now f v n (delAll D d) ∧ (∃ d' : List T, d'.length = d.length ∧ d'.Perm d ∧ d'.Pairwise (fun x y => ¬ ahd y x) ∧ TOwn B w' 28 (.slice (some ⟨g, 0, none⟩) d.length cap) d') ∧ Kp w w' b bm (some g) := by
  obtain ⟨C, Fr, m, h⟩ := h
  refine (release_walk w B b bm C Fr n g cap D d h.sb h.ats hown h.map hfar.1 h.bmb hd (fun t ht => i64_small (by have := hid t ht; omega) (by have := hid t ht; omega))).mono ?_
  rintro e w' ⟨rfl, hsb, hmap, hd', hkp⟩
  refine ⟨rfl, ⟨C, Fr, m, ?_⟩, hd', hkp⟩
  constructor
  · exact hsb
  · exact h.fr
  · exact h.now0
  · exact h.busy
  · exact h.slot
  · intro i j hi hj
    have ho := h.own i j hi hj
    refine ⟨ho.1, ?_⟩
    rcases ho.2 with e | ⟨g', cap', cur, e, hb', hg', r⟩
    · exact .inl e
    · have hob : (v i j).ownBlock = some g' := by rw [e]; rfl
      have hlt := (h.lt hi hj hob).2
      refine .inr ⟨g', cap', cur, e, hb', (hkp.block g' hlt (fun e2 => h.nb i j hi hj (e2 ▸ hob)) (fun e2 => h.nm hi hj (e2 ▸ hob)) (fun e2 => ?_)).trans hg', r⟩
      injection e2 with e2
      exact hfar.2.2 i j hi hj (by rw [hob, e2])
  · exact h.nb
  · exact h.apart
  · exact h.ats
  · exact hmap
  · exact h.bmb
  · exact Nat.le_trans h.hB hkp.size
end Go.Proofs.YtkoliacbajpijaaDoor.Whl
