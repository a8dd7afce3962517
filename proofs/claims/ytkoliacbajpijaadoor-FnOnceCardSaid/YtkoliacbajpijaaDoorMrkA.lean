/-
  The marks that the exact laws write into rows of timers and of ints. No walk.
-/
import Derived.Test.YtkoliacbajpijaaDoorIorW
namespace Go.Proofs.YtkoliacbajpijaaDoor.Whl
open Go.RowKit Go.Maps
set_option linter.unusedVariables false

/-- the marks from k on, for n timers -/
def mrkT (k : Int) (n : Nat) : List T := (List.range n).map fun (j : Nat) => (k + 2 * j, k + 2 * j + 1)
def mrkI (k : Int) (n : Nat) : List Int := (List.range n).map fun (j : Nat) => k + j
theorem mrkT_len (k : Int) (n : Nat) : (mrkT k n).length = n := by simp [mrkT]
theorem mrkI_len (k : Int) (n : Nat) : (mrkI k n).length = n := by simp [mrkI]
theorem mrkT_get (k : Int) (n j : Nat) (h : j < (mrkT k n).length) : (mrkT k n)[j] = (k + 2 * j, k + 2 * j + 1) := by simp [mrkT]
theorem mrkI_get (k : Int) (n j : Nat) (h : j < (mrkI k n).length) : (mrkI k n)[j] = k + j := by simp [mrkI]
theorem mrkT_step (k : Int) (l : List T) (j : Nat) (h : j < l.length) :
    (mrkT k j ++ l.drop j).set j (k + 2 * j, k + 2 * j + 1) = mrkT k (j + 1) ++ l.drop (j + 1) := by
  have e : mrkT k (j + 1) = mrkT k j ++ [(k + 2 * (j : Int), k + 2 * (j : Int) + 1)] := by simp [mrkT, List.range_succ]
  rw [e, List.set_append_right _ _ (by simp [mrkT]), List.append_assoc]
  congr 1
  rw [show j - (mrkT k j).length = 0 by simp [mrkT], List.drop_eq_getElem_cons h]
  rfl
theorem mrkI_step (k : Int) (l : List Int) (j : Nat) (h : j < l.length) :
    (mrkI k j ++ l.drop j).set j (k + j) = mrkI k (j + 1) ++ l.drop (j + 1) := by
  have e : mrkI k (j + 1) = mrkI k j ++ [k + (j : Int)] := by simp [mrkI, List.range_succ]
  rw [e, List.set_append_right _ _ (by simp [mrkI]), List.append_assoc]
  congr 1
  rw [show j - (mrkI k j).length = 0 by simp [mrkI], List.drop_eq_getElem_cons h]
  rfl
theorem mrk_mid_len (k : Int) (l : List T) (j : Nat) (h : j ≤ l.length) : (mrkT k j ++ l.drop j).length = l.length := by simp [mrkT_len]; omega
theorem mrkI_mid_len (k : Int) (l : List Int) (j : Nat) (h : j ≤ l.length) : (mrkI k j ++ l.drop j).length = l.length := by simp [mrkI_len]; omega

/-- a slice of ints that can be read -/
structure IIs (B : Nat) (w : World) (a : Option Addr) (len : Nat) (l : List Int) : Prop where
  hlen : l.length = len
  cell : ∀ k (h : k < l.length), ∃ b off, a = some ⟨b, off, none⟩ ∧ b < B ∧ w.cell? ⟨b, off + k, none⟩ = some (.int .i64 l[k])
theorem IIs.below {B : Nat} {w w' : World} {a : Option Addr} {len : Nat} {l : List Int} (h : IIs B w a len l) (hb : Below B w w') : IIs B w' a len l :=
  ⟨h.hlen, fun k hk => by
    obtain ⟨b, off, e, hlt, h0⟩ := h.cell k hk
    exact ⟨b, off, e, hlt, (hb.cell (p := ⟨b, off + k, none⟩) hlt).trans h0⟩⟩
theorem IIs.mono {B B' : Nat} {w : World} {a : Option Addr} {len : Nat} {l : List Int} (h : IIs B w a len l) (hB : B ≤ B') : IIs B' w a len l :=
  ⟨h.hlen, fun k hk => by
    obtain ⟨b, off, e, hlt, h0⟩ := h.cell k hk
    exact ⟨b, off, e, by omega, h0⟩⟩
theorem IOwn.lit {B : Nat} {w : World} {a : Option Addr} {n cap : Nat} {xs : List Int} (h : IOwn B w (.slice a n cap) xs) : n = xs.length ∧ IIs w.heap.size w a xs.length xs := by
  rcases h.2 with ⟨e, h0⟩ | ⟨g, c, cur, e, hb, hg, hn, hm, hs, ht⟩
  · simp only [Value.slice.injEq] at e
    obtain ⟨rfl, rfl, rfl⟩ := e
    exact ⟨h0.symm, rfl, fun k hk => by omega⟩
  · simp only [Value.slice.injEq] at e
    obtain ⟨rfl, rfl, rfl⟩ := e
    refine ⟨rfl, rfl, fun k hk => ⟨g, 0, rfl, lt_of_block hg, ?_⟩⟩
    have h1 := World.ownsRow.cellAt h k (by omega)
    rw [Nat.zero_add, h1, List.getElem?_map, List.getElem?_eq_getElem hk]
    rfl

/-- two values that lie in different blocks, if in any -/
def Sep (v v' : Value) : Prop := v.ownBlock = none ∨ v.ownBlock ≠ v'.ownBlock
theorem sep_tt {B B' : Nat} {w w' : World} {E E' : TypeId} {v v' : Value} {l l' : List T} (h : TOwn B w E v l) (h' : TOwn B' w' E' v' l') (hB : w.heap.size ≤ B') : Sep v v' ∧ Sep v' v := by
  cases hv : v.ownBlock with
  | none =>
    refine ⟨.inl hv, ?_⟩
    cases hv' : v'.ownBlock with
    | none => exact .inl hv'
    | some k => exact .inr (by rw [hv, hv']; simp)
  | some j =>
    have h1 := (World.ownsRow.lt h j hv).2
    cases hv' : v'.ownBlock with
    | none => exact ⟨.inr (by rw [hv, hv']; simp), .inl hv'⟩
    | some k =>
      have h2 := (World.ownsRow.lt h' k hv').1
      exact ⟨.inr (by rw [hv, hv']; simp; omega), .inr (by rw [hv, hv']; simp; omega)⟩
/-- whoever lies ahead of base B is apart from what lies from B on -/
theorem below_of_grown {B : Nat} {w w' : World} {E : TypeId} {v : Value} {l : List T} (h : TOwn B w E v l) (hg : w.grownBy w' v.ownBlock) (hB : B ≤ w.heap.size) : Below B w w' :=
  (Below.refl B w).grown hg hB (fun k hk => (World.ownsRow.lt h k hk).1)
theorem below_of_grownI {B : Nat} {w w' : World} {v : Value} {l : List Int} (h : IOwn B w v l) (hg : w.grownBy w' v.ownBlock) (hB : B ≤ w.heap.size) : Below B w w' :=
  (Below.refl B w).grown hg hB (fun k hk => (World.ownsRow.lt h k hk).1)
end Go.Proofs.YtkoliacbajpijaaDoor.Whl
