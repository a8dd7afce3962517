/-
  The wheel's slots in memory, as a whole: what they hold, and what place, take, first, begin and release make of it.
-/
import Derived.Test.YtkoliacbajpijaaDoorRelW
import Derived.Test.YtkoliacbajpijaaDoorWhlC
import Derived.WalkArith
namespace Go.Proofs.YtkoliacbajpijaaDoor.Whl
open Go.RowKit Go.Maps
set_option linter.unusedVariables false

/-! ### masks -/
theorem or_u64 (a b : Nat) (ha : a < 18446744073709551616) (hb : b < 18446744073709551616) : bits BinOp.or .u64 (a : Int) (b : Int) = ((a ||| b : Nat) : Int) ∧ a ||| b < 18446744073709551616 := by
  have hx : a ||| b < 2 ^ 64 := Nat.or_lt_two_pow (by omega) (by omega)
  have h1 : (BitVec.ofInt 64 (a : Int)).toNat = a := by
    rw [BitVec.ofInt_natCast, BitVec.toNat_ofNat]; exact Nat.mod_eq_of_lt (by omega)
  have h2 : (BitVec.ofInt 64 (b : Int)).toNat = b := by
    rw [BitVec.ofInt_natCast, BitVec.toNat_ofNat]; exact Nat.mod_eq_of_lt (by omega)
  refine ⟨?_, by omega⟩
  unfold bits
  show IntKind.u64.wrap ((BitVec.ofInt 64 (a : Int) ||| BitVec.ofInt 64 (b : Int)).toNat : Int) = _
  rw [BitVec.toNat_or, h1, h2, IntKind.wrap_u64]
  omega
theorem andNot_u64 (a b : Nat) (ha : a < 18446744073709551616) (hb : b < 18446744073709551616) : ∃ c : Nat, bits BinOp.andNot .u64 (a : Int) (b : Int) = (c : Int) ∧ c < 18446744073709551616 ∧ ∀ i, i < 64 → c.testBit i = (a.testBit i && !b.testBit i) := by
  have h1 : (BitVec.ofInt 64 (a : Int)).toNat = a := by
    rw [BitVec.ofInt_natCast, BitVec.toNat_ofNat]; exact Nat.mod_eq_of_lt (by omega)
  have h2 : (BitVec.ofInt 64 (b : Int)).toNat = b := by
    rw [BitVec.ofInt_natCast, BitVec.toNat_ofNat]; exact Nat.mod_eq_of_lt (by omega)
  refine ⟨(BitVec.ofInt 64 (a : Int) &&& ~~~ BitVec.ofInt 64 (b : Int)).toNat, ?_, by have := (BitVec.ofInt 64 (a : Int) &&& ~~~ BitVec.ofInt 64 (b : Int)).isLt; omega, fun i hi => ?_⟩
  · unfold bits
    show IntKind.u64.wrap ((BitVec.ofInt 64 (a : Int) &&& ~~~ BitVec.ofInt 64 (b : Int)).toNat : Int) = _
    have := (BitVec.ofInt 64 (a : Int) &&& ~~~ BitVec.ofInt 64 (b : Int)).isLt
    rw [IntKind.wrap_u64]
    omega
  · rw [BitVec.testBit_toNat, BitVec.getLsbD_and, BitVec.getLsbD_not, ← BitVec.testBit_toNat, ← BitVec.testBit_toNat, h1, h2]
    simp [hi]
theorem wrap_pow (s : Nat) (hs : s < 64) : IntKind.u64.wrap ((2 : Int) ^ s) = ((2 ^ s : Nat) : Int) ∧ (2 : Nat) ^ s < 18446744073709551616 := by
  have h : (2 : Nat) ^ s < 2 ^ 64 := Nat.pow_lt_pow_right (by omega) hs
  refine ⟨?_, by omega⟩
  have e : ((2 : Int) ^ s) = ((2 ^ s : Nat) : Int) := by simp
  rw [e, IntKind.wrap_u64]
  have h18 : (2 : Nat) ^ s < 18446744073709551616 := by omega
  generalize (2 : Nat) ^ s = p at h18
  omega
theorem ctz_spec (m : Nat) (h0 : m ≠ 0) (hm : m < 18446744073709551616) : Lib.ctz 64 m < 64 ∧ m.testBit (Lib.ctz 64 m) = true ∧ ∀ i, i < Lib.ctz 64 m → m.testBit i = false := by
  unfold Lib.ctz
  rw [if_neg h0]
  obtain ⟨k, hk, hlt⟩ := Lib.ctzFrom_spec 64 m (by omega) (by omega)
  generalize Lib.ctzFrom 64 m = c at hk hlt
  subst hk
  refine ⟨hlt, ?_, fun i hi => ?_⟩
  · rw [Nat.mul_comm, Nat.testBit_mul_two_pow]; simp
  · rw [Nat.mul_comm, Nat.testBit_mul_two_pow]; simp; omega

/-- The slots in memory. -/
structure Wst (B : Nat) (w : World) (b bm : Nat) (now : Int) (f : Nat → Nat → List T) (v : Nat → Nat → Value) (n : Nat) (D : DataW Unit) (C : Nat → Option Value) (Fr : Nat → Bool) (m : Nat → Nat) : Prop where
  sb : SB w b C Fr
  fr : ∀ i, i < 327 → Fr i = false
  now0 : C 0 = some (.int .i64 now)
  busy : ∀ l, l < 5 → C (1 + l) = some (.int .u64 (m l)) ∧ m l < 18446744073709551616 ∧ ∀ s, s < 64 → (m l).testBit s = decide (f l s ≠ [])
  slot : ∀ l s, l < 5 → s < 64 → C (6 + l * 64 + s) = some (v l s)
  own : ∀ l s, l < 5 → s < 64 → TOwn B w 28 (v l s) (f l s)
  nb : ∀ l s, l < 5 → s < 64 → (v l s).ownBlock ≠ some b
  apart : ∀ l s i j, l < 5 → s < 64 → i < 5 → j < 64 → ¬ (i = l ∧ j = s) → ∀ g, (v l s).ownBlock = some g → (v i j).ownBlock ≠ some g
  ats : C 326 = some (.map (some bm))
  map : w.ownsMap Tryd.prog 3 (plainElem Tryd.prog 3) bm n D
  bmb : bm ≠ b
  hB : B ≤ w.heap.size
section
variable {B : Nat} {w w' : World} {b bm : Nat} {now : Int} {f : Nat → Nat → List T} {v : Nat → Nat → Value} {n : Nat} {D : DataW Unit} {C : Nat → Option Value} {Fr : Nat → Bool} {m : Nat → Nat}
theorem own_map_ne {E : TypeId} {val : Value} {l : List T} {P : Program} {k : TypeId} {R : Value → Option (DataW Unit × List MemPlace)} (h : TOwn B w E val l) (hm : w.ownsMap P k R bm n D) : val.ownBlock ≠ some bm := by
  intro e
  rcases h.2 with ⟨e', _⟩ | ⟨g, cap, cur, e', _⟩
  · rw [e'] at e; simp [Value.ownBlock] at e
  · rw [e'] at e
    simp only [Value.ownBlock, Option.some.injEq] at e
    rw [e'] at h
    exact own_not_map (n := l.length) (cap := cap) h hm e
theorem Wst.nm (h : Wst B w b bm now f v n D C Fr m) {l s : Nat} (hl : l < 5) (hs : s < 64) : (v l s).ownBlock ≠ some bm := own_map_ne (h.own l s hl hs) h.map
theorem Wst.lt (h : Wst B w b bm now f v n D C Fr m) {l s : Nat} (hl : l < 5) (hs : s < 64) {g : Nat} (hg : (v l s).ownBlock = some g) : B ≤ g ∧ g < w.heap.size := World.ownsRow.lt (h.own l s hl hs) g hg
/-- block k is none of the slots' -/
def Far (b bm : Nat) (v : Nat → Nat → Value) (k : Nat) : Prop := k ≠ b ∧ k ≠ bm ∧ ∀ l s, l < 5 → s < 64 → (v l s).ownBlock ≠ some k
theorem Wst.far_new (h : Wst B w b bm now f v n D C Fr m) {k : Nat} (hk : w.heap.size ≤ k) : Far b bm v k :=
  ⟨by have := h.sb.lt; omega, by have := h.map.lt; omega, fun l s hl hs e => by have := (h.lt hl hs e).2; omega⟩
/-- the slots stay while other blocks are written -/
theorem Wst.grown (h : Wst B w b bm now f v n D C Fr m) {r : Option Nat} (hg : w.grownBy w' r) (hr : ∀ k, r = some k → Far b bm v k) : Wst B w' b bm now f v n D C Fr m where
  sb := h.sb.grown hg (fun e => (hr b e).1 rfl)
  fr := h.fr
  now0 := h.now0
  busy := h.busy
  slot := h.slot
  own l s hl hs := (h.own l s hl hs).grown hg (by
    cases e : (v l s).ownBlock with
    | none => exact .inl rfl
    | some k => exact .inr (fun e2 => (hr k e2.symm).2.2 l s hl hs e))
  nb := h.nb
  apart := h.apart
  ats := h.ats
  map := h.map.kept hg (fun e => (hr bm e.symm).2.1 rfl)
  bmb := h.bmb
  hB := Nat.le_trans h.hB hg.size
theorem Wst.below (h : Wst B w b bm now f v n D C Fr m) (hb : Below w.heap.size w w') : Wst B w' b bm now f v n D C Fr m := h.grown (grown_of_below hb none) (fun _ e => by cases e)
end
/-- What has been changed: nothing but the slots' own, and new blocks. -/
structure KpV (w w' : World) (b bm : Nat) (v v' : Nat → Nat → Value) : Prop where
  os : w'.os = w.os
  tape : w'.tape = w.tape
  output : w'.output = w.output
  size : w.heap.size ≤ w'.heap.size
  block : ∀ k, k < w.heap.size → Far b bm v k → w'.heap[k]? = w.heap[k]?
  vs : ∀ l s, l < 5 → s < 64 → ∀ g, (v' l s).ownBlock = some g → (∃ i j, i < 5 ∧ j < 64 ∧ (v i j).ownBlock = some g) ∨ w.heap.size ≤ g
section
variable {w w1 w2 : World} {b bm : Nat} {v v1 v2 : Nat → Nat → Value}
theorem KpV.refl (w : World) (b bm : Nat) (v : Nat → Nat → Value) : KpV w w b bm v v := ⟨rfl, rfl, rfl, Nat.le_refl _, fun _ _ _ => rfl, fun l s hl hs g hg => .inl ⟨l, s, hl, hs, hg⟩⟩
theorem KpV.far (h : KpV w w1 b bm v v1) {k : Nat} (hk : k < w.heap.size) (hf : Far b bm v k) : Far b bm v1 k :=
  ⟨hf.1, hf.2.1, fun l s hl hs e => by
    rcases h.vs l s hl hs k e with ⟨i, j, hi, hj, e2⟩ | e2
    · exact hf.2.2 i j hi hj e2
    · omega⟩
theorem KpV.trans (h : KpV w w1 b bm v v1) (h2 : KpV w1 w2 b bm v1 v2) : KpV w w2 b bm v v2 :=
  ⟨h2.os.trans h.os, h2.tape.trans h.tape, h2.output.trans h.output, Nat.le_trans h.size h2.size,
    fun k hk hf => (h2.block k (Nat.lt_of_lt_of_le hk h.size) (h.far hk hf)).trans (h.block k hk hf),
    fun l s hl hs g hg => by
      rcases h2.vs l s hl hs g hg with ⟨i, j, hi, hj, e⟩ | e
      · exact h.vs i j hi hj g e
      · exact .inr (Nat.le_trans h.size e)⟩
theorem KpV.grown (h : KpV w w1 b bm v v1) {r : Option Nat} (hg : w1.grownBy w2 r) (hr : ∀ k, r = some k → k < w.heap.size → k = b ∨ k = bm ∨ ∃ i j, i < 5 ∧ j < 64 ∧ (v i j).ownBlock = some k) : KpV w w2 b bm v v1 :=
  ⟨hg.os.trans h.os, hg.tape.trans h.tape, hg.output.trans h.output, Nat.le_trans h.size hg.size, fun k hk hf =>
    (hg.block k (Nat.lt_of_lt_of_le hk h.size) (fun e => by
      rcases hr k e.symm hk with r | r | ⟨i, j, hi, hj, r⟩
      · exact hf.1 r
      · exact hf.2.1 r
      · exact hf.2.2 i j hi hj r)).trans (h.block k hk hf), h.vs⟩
theorem KpV.below (h : KpV w w1 b bm v v1) (hb : Below w1.heap.size w1 w2) : KpV w w2 b bm v v1 := h.grown (grown_of_below hb none) (fun _ e => by cases e)
theorem KpV.low {B : Nat} (h : KpV w w1 b bm v v1) (hb : B ≤ b) (hm : B ≤ bm) (hv : ∀ l s, l < 5 → s < 64 → ∀ g, (v l s).ownBlock = some g → B ≤ g) (hB : B ≤ w.heap.size) : Below B w w1 :=
  ⟨h.os, h.tape, h.output, h.size, fun k hk => h.block k (by omega) ⟨by omega, by omega, fun l s hl hs e => by have := hv l s hl hs k e; omega⟩⟩
/-- a row that is none of the slots' stays -/
theorem KpV.keep {B : Nat} {E : TypeId} {val : Value} {l : List T} (h : KpV w w1 b bm v v1) (ho : TOwn B w E val l) (hf : ∀ g, val.ownBlock = some g → Far b bm v g) : TOwn B w1 E val l := by
  refine ⟨ho.1, ?_⟩
  rcases ho.2 with e | ⟨g, cap, cur, e, hb, hg, r⟩
  · exact .inl e
  · have hlt := (World.ownsRow.lt ho g (by rw [e]; rfl)).2
    exact .inr ⟨g, cap, cur, e, hb, (h.block g hlt (hf g (by rw [e]; rfl))).trans hg, r⟩
end

/-- The slots in memory, its cells not named. -/
def WstE (B : Nat) (w : World) (b bm : Nat) (now : Int) (f : Nat → Nat → List T) (v : Nat → Nat → Value) (n : Nat) (D : DataW Unit) : Prop := ∃ C Fr m, Wst B w b bm now f v n D C Fr m

theorem idx_ne {l s i j : Nat} (hs : s < 64) (hj : j < 64) (h : ¬ (i = l ∧ j = s)) : 6 + i * 64 + j ≠ 6 + l * 64 + s := by
  intro e
  apply h
  have : i = l := by omega
  subst this
  exact ⟨rfl, by omega⟩
theorem i64_small {z : Int} (h0 : 0 ≤ z) (h1 : z ≤ 1000000000) : (Lit.int .i64 z).wf = true := WalkArith.wf_i64 (by omega)

theorem place_st {B : Nat} {w : World} {b bm : Nat} {now : Int} {f : Nat → Nat → List T} {v : Nat → Nat → Value} {n : Nat} {D : DataW Unit} (h : WstE B w b bm now f v n D)
    (x y : Int) (l s : Nat) (hl : lev now x = l) (hs : dig x l = (s : Int)) (hl5 : l < 5) (hs64 : s < 64) (n0 : 0 ≤ now) (n1 : now ≤ 1000000000) (x0 : 0 ≤ x) (x1 : x ≤ 1000000000) (y0 : 1 ≤ y) (y1 : y ≤ 9999) (hf : (f l s).length ≤ 1000) (hn : n ≤ 5000) :
    Calls Tryd.prog 45 #[.pointer (some ⟨b, 0, none⟩), .agg #[.int .i64 x, .int .i64 y]] w fun e w' => e = .returned (.tuple #[]) ∧
      ∃ v', WstE B w' b bm now (upd2 f l s (f l s ++ [(x, y)])) v' (n + 1) (D.put (.int .i64 y) (.lit (.int .i64 x))) ∧ KpV w w' b bm v v' := by
  obtain ⟨C, Fr, m, h⟩ := h
  obtain ⟨hb1, hb2, hb3⟩ := h.busy l hl5
  have hbm := h.map.lt
  have hp := place_walk w B b bm C Fr now x y l s (m l) n D (v l s) (f l s) (by rw [levI_ok n0 x0, hl]) (by rw [slotI_ok x0 (by omega) (by omega)]; simpa using hs) (by omega) (by omega) (i64_small n0 n1) (i64_small x0 x1) (i64_small (by omega) (by omega)) (i64_small (by omega) (by omega))
    h.sb h.now0 hb1 (h.fr _ (by omega)) (h.slot l s hl5 hs64) (h.fr _ (by omega)) h.ats (h.own l s hl5 hs64) (h.nb l s hl5 hs64) h.map (by unfold maxLen; omega) (by unfold maxLen; omega) (by omega) h.hB h.bmb (h.nm hl5 hs64)
    (fun k hk e => by have := (h.lt hl5 hs64 hk).2; omega)
  refine hp.mono ?_
  rintro e w' ⟨rfl, g, cap, P⟩
  obtain ⟨hw1, hw2⟩ := wrap_pow s hs64
  obtain ⟨ho1, ho2⟩ := or_u64 (m l) (2 ^ s) hb2 hw2
  refine ⟨rfl, upd2 v l s (.slice (some ⟨g, 0, none⟩) ((f l s).length + 1) cap), ⟨upd (upd C (6 + l * 64 + s) (some (.slice (some ⟨g, 0, none⟩) ((f l s).length + 1) cap))) (1 + l) (some (.int .u64 (bits BinOp.or .u64 (m l) (IntKind.u64.wrap (2 ^ s))))), Fr, upd m l (m l ||| 2 ^ s), ?_⟩, ?_⟩
  · have hgf : ∀ i j, i < 5 → j < 64 → ¬ (i = l ∧ j = s) → (v i j).ownBlock ≠ some g := by
      intro i j hi hj hne e
      rcases P.at_ with r | r
      · exact h.apart l s i j hl5 hs64 hi hj hne g r e
      · have := (h.lt hi hj e).2; omega
    have hkp : ∀ i j, i < 5 → j < 64 → ¬ (i = l ∧ j = s) → TOwn B w' 28 (v i j) (f i j) := by
      intro i j hi hj hne
      have ho := h.own i j hi hj
      refine ⟨ho.1, ?_⟩
      rcases ho.2 with e | ⟨g', cap', cur, e, hb', hg', r⟩
      · exact .inl e
      · have hob : (v i j).ownBlock = some g' := by rw [e]; rfl
        have hlt := (h.lt hi hj hob).2
        refine .inr ⟨g', cap', cur, e, hb', (P.kp.block g' hlt (fun e2 => h.nb i j hi hj (e2 ▸ hob)) (fun e2 => h.nm hi hj (e2 ▸ hob)) (fun e2 => ?_)).trans hg', r⟩
        exact h.apart l s i j hl5 hs64 hi hj hne g' e2 hob
    constructor
    · exact P.sb
    · exact h.fr
    · rw [upd_other _ _ (by omega), upd_other _ _ (by omega)]; exact h.now0
    · intro i hi
      by_cases e : i = l
      · subst e
        rw [upd_same, upd_same, hw1, ho1]
        refine ⟨rfl, ho2, fun k hk => ?_⟩
        rw [Nat.testBit_or, hb3 k hk, Nat.testBit_two_pow]
        by_cases e2 : k = s
        · subst e2; rw [upd2_same]; simp
        · rw [upd2_other _ _ (by omega)]
          simp [Ne.symm e2]
      · rw [upd_other _ _ (by omega), upd_other _ _ (by omega), upd_other _ _ e]
        obtain ⟨q1, q2, q3⟩ := h.busy i hi
        exact ⟨q1, q2, fun k hk => by rw [upd2_other _ _ (by omega)]; exact q3 k hk⟩
    · intro i j hi hj
      rw [upd_other _ _ (by omega)]
      by_cases e : i = l ∧ j = s
      · obtain ⟨rfl, rfl⟩ := e
        rw [upd_same, upd2_same]
      · rw [upd_other _ _ (idx_ne hs64 hj e), upd2_other _ _ e]
        exact h.slot i j hi hj
    · intro i j hi hj
      by_cases e : i = l ∧ j = s
      · obtain ⟨rfl, rfl⟩ := e
        rw [upd2_same, upd2_same]
        exact P.own
      · rw [upd2_other _ _ e, upd2_other _ _ e]
        exact hkp i j hi hj e
    · intro i j hi hj
      by_cases e : i = l ∧ j = s
      · obtain ⟨rfl, rfl⟩ := e
        rw [upd2_same]
        simpa [Value.ownBlock] using P.ne
      · rw [upd2_other _ _ e]
        exact h.nb i j hi hj
    · intro i j i' j' hi hj hi' hj' hne k hk
      by_cases e : i = l ∧ j = s
      · obtain ⟨rfl, rfl⟩ := e
        rw [upd2_same] at hk
        simp only [Value.ownBlock, Option.some.injEq] at hk
        subst hk
        rw [upd2_other _ _ hne]
        exact hgf i' j' hi' hj' hne
      · rw [upd2_other _ _ e] at hk
        by_cases e' : i' = l ∧ j' = s
        · obtain ⟨rfl, rfl⟩ := e'
          rw [upd2_same]
          intro e2
          simp only [Value.ownBlock, Option.some.injEq] at e2
          exact hgf i j hi hj e (by rw [hk, e2])
        · rw [upd2_other _ _ e']
          exact h.apart i j i' j' hi hj hi' hj' hne k hk
    · rw [upd_other _ _ (by omega), upd_other _ _ (by omega)]; exact h.ats
    · exact P.map
    · exact h.bmb
    · exact Nat.le_trans h.hB P.kp.size
  · refine ⟨P.kp.os, P.kp.tape, P.kp.output, P.kp.size, fun k hk hfar => P.kp.block k hk hfar.1 hfar.2.1 (hfar.2.2 l s hl5 hs64), fun i j hi hj k hk => ?_⟩
    by_cases e : i = l ∧ j = s
    · obtain ⟨rfl, rfl⟩ := e
      rw [upd2_same] at hk
      simp only [Value.ownBlock, Option.some.injEq] at hk
      subst hk
      rcases P.at_ with r | r
      · exact .inl ⟨i, j, hi, hj, r⟩
      · exact .inr r
    · rw [upd2_other _ _ e] at hk
      exact .inl ⟨i, j, hi, hj, hk⟩
end Go.Proofs.YtkoliacbajpijaaDoor.Whl
