/-
  The specification's l08Code and Submit.
  The specification's l08Answer.
  The specification's Receive.
-/
import Derived.Test.YtkndpkingmemoaaGreatDoorMgo
import Derived.Test.YtkndpkingmemoaaGreatDoorMgg
import Derived.Test.YtkndpkingmemoaaGreatDoorMgp
import Derived.Test.YtkndpkingmemoaaGreatDoorMgq
namespace Go.Proofs.YtkndpkingmemoaaGreatDoor.Gat
open Go.RowKit
open Lnk (bOne bAfter IOwn IIs YOwn YIs below_keep below_drew' bcell low_after low_alloc grown_of_below)
set_option linter.unusedVariables false
set_option linter.unusedSimpArgs false

/-- the code of what is handed in -/
def subC (ok : Bool) (nw de d c : Int) (bs : Nat) (pt t qu : Int) (en : Nat) (la : Int) (E : List Ev) : Int :=
  cond (!ok) 1 (cond (nw == 1000000000) 2 (cond (!inB 1 de d) 3 (cond (!inB 1 9 c) 4 (cond (decide ((40 : Int) < (bs : Int))) 5 (cond (!inB 1 pt t) 6 (cond (decide (qu ≤ (openN d E : Int))) 7 (cond ((en : Int) == 60 || la == 9999) 8 0)))))))
theorem subC_ok {ok : Bool} {nw de d c : Int} {bs : Nat} {pt t qu : Int} {en : Nat} {la : Int} {E : List Ev} (h : subC ok nw de d c bs pt t qu en la E = 0) : ok = true := by
  cases ok with
  | true => rfl
  | false => simp [subC] at h

/-- a gate and two numbers that were handed back -/
def GEnd2 (w w' : World) (de qu wi ti qa bu le pb pc pj pt nw la tu tk ac dr : Int) (E : List Ev) (K : List Lk) (F R : List Int) (x y : Int) (e : Ending) : Prop :=
  (∃ ea ec ka kc fa fc ra rc vs, e = .returned (.tuple #[.agg #[.int .i64 de, .int .i64 qu, .int .i64 wi, .int .i64 ti, .int .i64 qa, .int .i64 bu, .int .i64 le, .int .i64 pb, .int .i64 pc, .int .i64 pj, .int .i64 pt, .int .i64 nw, .int .i64 la, .slice ea E.length ec, .slice ka K.length kc, .int .i64 tu, .slice fa F.length fc, .slice ra R.length rc, .int .i64 tk, .int .i64 ac, .int .i64 dr], .int .i64 x, .int .i64 y]) ∧ GOwn w.heap.size w' (.slice ea E.length ec) (.slice ka K.length kc) (.slice fa F.length fc) (.slice ra R.length rc) vs E K F R) ∧ Below w.heap.size w w'

end Go.Proofs.YtkndpkingmemoaaGreatDoor.Gat
namespace Go.Proofs.YtkndpkingmemoaaGreatDoor.Gat
open Go.RowKit
open Lnk (bOne bAfter IOwn IIs YOwn YIs below_keep below_drew' bcell low_after low_alloc grown_of_below ansL ansI)
set_option linter.unusedVariables false
set_option linter.unusedSimpArgs false

theorem sizeFrm : (Tryz.prog.info? 51).map (·.size) = some 6 := by kernel_rfl
theorem sizeLnk : (Tryz.prog.info? 82).map (·.size) = some 4 := by kernel_rfl
noncomputable def ansK (k : Lk) (e s : Int) : Lk := ⟨k.up, k.ep, k.sq, ansL k.up k.ep k.sq k.l e s⟩
noncomputable def ansId (k : Lk) (e s : Int) : Int := ansI k.up k.ep k.sq k.l e s
theorem getD_at {K : List Lk} {d : Int} {m : Nat} {k : Lk} (hm : m < K.length) (hd : d = (m : Int) + 1) (hk : K[m] = k) : K.getD (d - 1).toNat lk0 = k ∧ (d - 1).toNat = m := by
  have e : (d - 1).toNat = m := by omega
  rw [e, List.getD_eq_getElem?_getD, List.getElem?_eq_getElem hm, hk]
  exact ⟨rfl, rfl⟩

theorem ne_old {B : Nat} {w : World} {r : Rw} {k : Nat} (h : r.At B w) (hk : k = w.heap.size) : r.v.ownBlock = none ∨ r.v.ownBlock ≠ some k := by
  cases hv : r.v.ownBlock with
  | none => exact .inl rfl
  | some q => exact .inr (by have := (h.lt q hv).2; intro e; injection e; omega)
end Go.Proofs.YtkndpkingmemoaaGreatDoor.Gat
namespace Go.Proofs.YtkndpkingmemoaaGreatDoor.Gat
open Go.RowKit
open Lnk (bOne bAfter IOwn IIs YOwn YIs below_keep below_drew' bcell low_after low_alloc grown_of_below)
open Frm (GotE gcode gK gD gE gS gI gB told_len FOk)
set_option linter.unusedVariables false
set_option linter.unusedSimpArgs false

theorem got_uni {s : ByteArray} {en : Ending} (h : GotE s en) : ∃ (kd fd fe fs fi : Int) (fb : ByteArray), en = .returned (.tuple #[.agg #[.int .i64 kd, .int .i64 fd, .int .i64 fe, .int .i64 fs, .int .i64 fi, .string fb], .int .i64 (gcode s)]) ∧ (gcode s = 0 → kd = gK s ∧ fd = gD s ∧ fe = gE s ∧ fs = gS s) := by
  rcases h with ⟨h0, rfl⟩ | ⟨h0, rfl⟩
  · exact ⟨_, _, _, _, _, _, by rw [h0], fun _ => ⟨rfl, rfl, rfl, rfl⟩⟩
  · exact ⟨_, _, _, _, _, _, rfl, fun h => absurd h h0⟩
theorem gcode_rng (s : ByteArray) : 0 ≤ gcode s ∧ gcode s ≤ 3 := by
  unfold Frm.gcode
  split
  · omega
  · split
    · omega
    · split <;> omega
/-- what comes of bytes: is the gate as it was -/
def rcvS (ok : Bool) (s : ByteArray) (de : Int) : Bool := !ok || (gcode s != 0) || decide (de < gD s) || (gK s == 1)
noncomputable def rcvA (K : List Lk) (s : ByteArray) : Int := ansId (K.getD (gD s - 1).toNat lk0) (gE s) (gS s)
noncomputable def rcvE (ok : Bool) (s : ByteArray) (de : Int) (K : List Lk) (E : List Ev) : List Ev :=
  sel (rcvS ok s de) E (sel (gK s == 3) (conE joinI (ok && inB 1 de (gD s)) K E (gD s)) (sel (rcvA K s == 0) E (sel (gK s == 4) (back1 E (rcvA K s)) (goneE (rcvA K s) E))))
noncomputable def rcvK (ok : Bool) (s : ByteArray) (de : Int) (K : List Lk) : List Lk :=
  sel (rcvS ok s de) K (sel (gK s == 3) (conK joinK (ok && inB 1 de (gD s)) K (gD s)) (sel (rcvA K s == 0) K (K.set (gD s - 1).toNat (ansK (K.getD (gD s - 1).toNat lk0) (gE s) (gS s)))))
noncomputable def rcvN (ok : Bool) (s : ByteArray) (de : Int) (K : List Lk) (ac : Int) : Int :=
  sel (rcvS ok s de) ac (sel (gK s == 3) ac (sel (rcvA K s == 0) ac (sel (gK s == 4) ac (ac + 1))))
noncomputable def rcvI (ok : Bool) (s : ByteArray) (de : Int) (K : List Lk) : Int := sel (rcvS ok s de) 0 (sel (gK s == 3) 0 (rcvA K s))
noncomputable def rcvC (ok : Bool) (s : ByteArray) (de : Int) (K : List Lk) : Int :=
  sel (!ok) 6 (sel (gcode s != 0) (2 + gcode s) (sel (decide (de < gD s)) 7 (sel (gK s == 1) 8 (sel (gK s == 3) 2 (sel (rcvA K s == 0) 9 (sel (gK s == 4) 1 0))))))

end Go.Proofs.YtkndpkingmemoaaGreatDoor.Gat
