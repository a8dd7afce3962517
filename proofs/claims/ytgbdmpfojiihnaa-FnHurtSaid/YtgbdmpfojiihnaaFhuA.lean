/-
  Plain facts: a frame of which one byte was changed is refused, but where 0 and 255 changed places. No Go in sight.
-/
import Derived.Test.YtgbdmpfojiihnaaFrmB
import Derived.Test.YtgbdmpfojiihnaaCkA
import Derived.Test.YtgbdmpfojiihnaaDecA
namespace Go.Proofs.Ytgbdmpfojiihnaa.Frm
open Go.RowKit Go.Proofs.Ytgbdmpfojiihnaa.Num
set_option linter.unusedVariables false

theorem itoa_le (n : Int) (h0 : 0 ≤ n) (h1 : n ≤ 9223372036854775807) : (Lib.itoa n).length ≤ 20 := by
  rcases Int.lt_or_le 0 n with h | h
  · rw [Dec.itoa_pos n h]
    have := Dec.dd_i64 n (by omega) h1
    omega
  · obtain rfl : n = 0 := by omega
    rw [Dec.itoa_zero]
    simp
theorem two_of {l : List UInt8} (h : l.length = 2) : ∃ a b, l = [a, b] := by
  match l, h with
  | [a, b], _ => exact ⟨a, b, rfl⟩
theorem gn_two (a b : UInt8) : gn [a, b] = a.toNat * 256 + b.toNat := by simp [gn]
/-- the number that the last two bytes are -/
theorem last_two {S : ByteArray} {m : Nat} (hm : S.size = m + 2) {a b : UInt8} (h : S.data.toList.drop m = [a, b]) : gnVal S (m : Int) 2 = (a.toNat : Int) * 256 + (b.toNat : Int) := by
  rw [gnVal_ok (by unfold gnOk; omega)]
  unfold gcut
  rw [show ((m : Int)).toNat = m by omega, show (2 : Int).toNat = 2 by omega, h]
  show ((gn [a, b] : Nat) : Int) = _
  rw [gn_two]
  omega
theorem byte_bd (c : UInt8) : c.toNat < 256 := c.toNat_lt
theorem hurt {S T : ByteArray} {n : Nat} {by' : Int} {u : UInt8} (hS : gcode S = 0) (hn : n < S.data.toList.length) (h1 : 1 ≤ by') (h2 : by' ≤ 254)
    (hu : (u.toNat : Int) = ((S.data.toList[n].toNat : Int) + by') % 255) (hT : T.data.toList = S.data.toList.set n u) (h255 : S.data.toList[n].toNat ≠ 255) : gcode T ≠ 0 := by
  intro hc
  have hsz : T.size = S.size := by rw [← len_size, ← len_size, hT, List.length_set]
  have s11 := (told_len hS).1
  obtain ⟨m, hm⟩ : ∃ m, S.size = m + 2 := ⟨S.size - 2, by omega⟩
  have hsS : sumOk S m := Decidable.byContradiction fun hx => by rw [gcode_sum hm (by omega) hx] at hS; omega
  have hsT : sumOk T m := Decidable.byContradiction fun hx => by rw [gcode_sum (by rw [hsz]; exact hm) (by omega) hx] at hc; omega
  unfold sumOk at hsS hsT
  have hlS := len_size S
  have hb := byte_bd S.data.toList[n]
  have hub := byte_bd u
  have hdS : (S.data.toList.drop m).length = 2 := by rw [List.length_drop]; omega
  obtain ⟨a, b, hab⟩ := two_of hdS
  have gS2 := last_two hm hab
  by_cases hnm : n < m
  · have htk : List.take m T.data.toList = (List.take m S.data.toList).set n u := by rw [hT, List.take_set]
    have hdT : T.data.toList.drop m = [a, b] := by rw [hT, List.drop_set, if_pos hnm, hab]
    have gT2 := last_two (by rw [hsz]; exact hm) hdT
    have hnl : n < (List.take m S.data.toList).length := by rw [List.length_take]; omega
    have hlaw := (Ck.put_law (List.take m S.data.toList) n hnl u).1 (by rw [← htk, ← hsT, ← hsS, gT2, gS2])
    rw [List.getElem_take] at hlaw
    have := (Ck.tmod_zero _).1 hlaw
    omega
  · have htk : List.take m T.data.toList = List.take m S.data.toList := by rw [hT, List.take_set_of_le (by omega)]
    have heq : gnVal T (m : Int) 2 = gnVal S (m : Int) 2 := by rw [hsT, hsS, htk]
    have hdT : T.data.toList.drop m = [a, b].set (n - m) u := by rw [hT, List.drop_set, if_neg hnm, hab]
    have hne : (u.toNat : Int) ≠ (S.data.toList[n].toNat : Int) := by omega
    rcases (show n = m ∨ n = m + 1 by omega) with e | e
    · have hx : S.data.toList[n] = a := by
        have := congrArg (fun l => l[0]?) hab
        simp only [List.getElem?_drop, Nat.add_zero, List.getElem?_cons_zero] at this
        rw [List.getElem?_eq_getElem (by omega)] at this
        injection this with this
        subst e
        exact this
      rw [e, Nat.sub_self] at hdT
      have gT2 := last_two (by rw [hsz]; exact hm) (show T.data.toList.drop m = [u, b] from hdT)
      rw [hx] at hne
      omega
    · have hx : S.data.toList[n] = b := by
        have := congrArg (fun l => l[1]?) hab
        simp only [List.getElem?_drop, List.getElem?_cons_succ, List.getElem?_cons_zero] at this
        rw [List.getElem?_eq_getElem (by omega)] at this
        injection this with this
        subst e
        exact this
      rw [e, Nat.add_sub_cancel_left] at hdT
      have gT2 := last_two (by rw [hsz]; exact hm) (show T.data.toList.drop m = [a, u] from hdT)
      rw [hx] at hne
      omega
end Go.Proofs.Ytgbdmpfojiihnaa.Frm
