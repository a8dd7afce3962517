/-
  Plain facts on frames: a right frame comes back from its bytes; bytes that can be read tell their length. No Go in sight.
-/
import Derived.Test.YtgbdmpfojiihnaaDoorGetA
import Derived.Lib.Strings
namespace Go.Proofs.YtgbdmpfojiihnaaDoor.Frm
open Go.RowKit Go.Proofs.YtgbdmpfojiihnaaDoor.Num
set_option linter.unusedVariables false

theorem len_size (s : ByteArray) : s.data.toList.length = s.size := by rw [Array.length_toList]; rfl
theorem size_lit (l : List UInt8) : (⟨l.toArray⟩ : ByteArray).size = l.length := by show l.toArray.size = _; simp
theorem cut_mid {x y z : List UInt8} {p n : Nat} (hx : x.length = p) (hy : y.length = n) : ((x ++ y ++ z).drop p).take n = y := by
  subst hx hy
  rw [List.append_assoc, List.drop_left, List.take_left]
theorem gn_putVal {x n : Int} (h0 : 0 ≤ x) (h1 : 1 ≤ n) (h4 : n ≤ 4) (hx : x < 256 ^ n.toNat) : (gn (putVal x n) : Int) = x := by
  rw [putVal_ok ⟨h0, h1, h4⟩, gn_pb]
  obtain ⟨y, rfl⟩ := Int.eq_ofNat_of_zero_le h0
  rw [Int.toNat_natCast, Nat.mod_eq_of_lt]
  exact Int.ofNat_lt.1 (by simpa using hx)
/-- a number that stands in a text's bytes -/
theorem gnVal_mid {s : ByteArray} {x y z : List UInt8} {v : Int} {p n : Nat} (hs : s.data.toList = x ++ y ++ z) (hx : x.length = p) (hy : y = putVal v n) (hn1 : 1 ≤ n) (hn4 : n ≤ 4) (hv0 : 0 ≤ v) (hv1 : v < 256 ^ n) : gnVal s (p : Int) (n : Int) = v := by
  have hyl : y.length = n := by rw [hy, putVal_len hv0 (by omega) (by omega)]; omega
  have hsz : s.size = p + n + z.length := by rw [← len_size, hs, List.length_append, List.length_append, hx, hyl]
  rw [gnVal_ok (by unfold gnOk; omega)]
  unfold gcut
  rw [show ((p : Int)).toNat = p by omega, show ((n : Int)).toNat = n by omega, hs, cut_mid hx hyl, hy]
  exact gn_putVal hv0 (by omega) (by omega) (by simpa using hv1)
theorem ba_ext {a b : ByteArray} (h : a.data.toList = b.data.toList) : a = b := by
  apply ByteArray.ext
  exact Array.ext' h
/-- a right frame comes back from its bytes -/
theorem back {k d e s i : Int} {b S : ByteArray} (h : FOk k d e s i b.size) (hS : S.data.toList = frBytes k d e s i b.data.toList) :
    gcode S = 0 ∧ gK S = k ∧ gD S = d ∧ gE S = e ∧ gS S = s ∧ gI S = i ∧ gB S (S.size - 2) = b ∧ S.size = 11 + b.size := by
  have hlen := len_size b
  have hl := frBytes_len (b := b.data.toList) (by rw [hlen]; exact h)
  have hhl := head_len (b := b.data.toList) (by rw [hlen]; exact h)
  have hsz : S.size = 11 + b.size := by rw [← len_size, hS, hl, hlen]
  obtain ⟨h1, h2, h3, h4, h5, h6, h7, h8, h9, h10, h11⟩ := h.bounds
  have l1 : (putVal k 1).length = 1 := putVal_len h1 (by omega) (by omega)
  have l2 : (putVal d 1).length = 1 := putVal_len h3 (by omega) (by omega)
  have l3 : (putVal e 2).length = 2 := putVal_len h5 (by omega) (by omega)
  have l4 : (putVal s 2).length = 2 := putVal_len h7 (by omega) (by omega)
  have l5 : (putVal i 2).length = 2 := putVal_len h9 (by omega) (by omega)
  have l6 : (putVal (b.data.toList.length : Int) 1).length = 1 := putVal_len (by omega) (by omega) (by omega)
  obtain ⟨ck, hck⟩ : ∃ ck, ck = putVal (ckVal (head k d e s i b.data.toList)) 2 := ⟨_, rfl⟩
  have hfr : S.data.toList = head k d e s i b.data.toList ++ ck := by rw [hS, frBytes, hck]
  have g1 : gK S = k := gnVal_mid (x := []) (y := putVal k 1) (z := putVal d 1 ++ putVal e 2 ++ putVal s 2 ++ putVal i 2 ++ putVal (b.data.toList.length : Int) 1 ++ b.data.toList ++ ck) (p := 0) (n := 1) (by rw [hfr, head]; simp) rfl rfl (by omega) (by omega) h1 (by omega)
  have g2 : gD S = d := gnVal_mid (x := putVal k 1) (y := putVal d 1) (z := putVal e 2 ++ putVal s 2 ++ putVal i 2 ++ putVal (b.data.toList.length : Int) 1 ++ b.data.toList ++ ck) (p := 1) (n := 1) (by rw [hfr, head]; simp) l1 rfl (by omega) (by omega) h3 (by omega)
  have g3 : gE S = e := gnVal_mid (x := putVal k 1 ++ putVal d 1) (y := putVal e 2) (z := putVal s 2 ++ putVal i 2 ++ putVal (b.data.toList.length : Int) 1 ++ b.data.toList ++ ck) (p := 2) (n := 2) (by rw [hfr, head]; simp) (by rw [List.length_append, l1, l2]) rfl (by omega) (by omega) h5 (by omega)
  have g4 : gS S = s := gnVal_mid (x := putVal k 1 ++ putVal d 1 ++ putVal e 2) (y := putVal s 2) (z := putVal i 2 ++ putVal (b.data.toList.length : Int) 1 ++ b.data.toList ++ ck) (p := 4) (n := 2) (by rw [hfr, head]; simp) (by rw [List.length_append, List.length_append, l1, l2, l3]) rfl (by omega) (by omega) h7 (by omega)
  have g5 : gI S = i := gnVal_mid (x := putVal k 1 ++ putVal d 1 ++ putVal e 2 ++ putVal s 2) (y := putVal i 2) (z := putVal (b.data.toList.length : Int) 1 ++ b.data.toList ++ ck) (p := 6) (n := 2) (by rw [hfr, head]; simp) (by rw [List.length_append, List.length_append, List.length_append, l1, l2, l3, l4]) rfl (by omega) (by omega) h9 (by omega)
  have hck2 := ckVal_bd (head k d e s i b.data.toList)
  have lck : ck.length = 2 := by rw [hck]; exact putVal_len hck2.1 (by omega) (by omega)
  have hm : S.size = (9 + b.size) + 2 := by omega
  have g6 : gB S (9 + b.size) = b := by
    apply ba_ext
    unfold gB
    rw [ByteArray.data_extract, Array.toList_extract, List.extract_eq_take_drop, hfr, head]
    rw [List.append_assoc, List.drop_left' (by simp only [List.length_append]; omega), show 9 + b.size - 9 = b.data.toList.length by omega, List.take_left]
  have hsum : sumOk S (9 + b.size) := by
    unfold sumOk
    have htk : List.take (9 + b.size) S.data.toList = head k d e s i b.data.toList := by
      rw [hfr, List.take_left' (by omega)]
    rw [htk]
    exact gnVal_mid (x := head k d e s i b.data.toList) (y := ck) (z := []) (n := 2) (by rw [hfr]; simp) (by omega) hck (by omega) (by omega) hck2.1 (by omega)
  refine ⟨gcode_ok hm (by omega) hsum ?_, g1, g2, g3, g4, g5, ?_, hsz⟩
  · rw [gP, g1, g2, g3, g4, g5, g6, putF_yes (by rw [hlen]; exact h), hS]
  · rw [show S.size - 2 = 9 + b.size by omega, g6]
/-- bytes that can be read tell their length -/
theorem told_len {S : ByteArray} (h : gcode S = 0) : 11 ≤ S.size ∧ gnVal S 8 1 = (S.size : Int) - 11 ∧ FOk (gK S) (gD S) (gE S) (gS S) (gI S) (gB S (S.size - 2)).size ∧ S.data.toList = frBytes (gK S) (gD S) (gE S) (gS S) (gI S) (gB S (S.size - 2)).data.toList := by
  have h11 : ¬ S.size < 11 := fun hx => by rw [gcode_short hx] at h; omega
  obtain ⟨m, hm⟩ : ∃ m, S.size = m + 2 := ⟨S.size - 2, by omega⟩
  have hsum : sumOk S m := Decidable.byContradiction fun hx => by rw [gcode_sum hm h11 hx] at h; omega
  have hform : gP S m = S.data.toList := Decidable.byContradiction fun hx => by rw [gcode_form hm h11 hsum hx] at h; omega
  have hbl : (gB S m).size = m - 9 := ext_size S 9 m (by omega)
  have hlen := len_size (gB S m)
  have hok : FOk (gK S) (gD S) (gE S) (gS S) (gI S) (gB S m).size := by
    refine Decidable.byContradiction fun hx => ?_
    rw [gP, putF_no (by rw [hlen]; exact hx)] at hform
    have := len_size S
    rw [← hform] at this
    simp at this
    omega
  have hfr : S.data.toList = frBytes (gK S) (gD S) (gE S) (gS S) (gI S) (gB S m).data.toList := by
    rw [gP, putF_yes (by rw [hlen]; exact hok)] at hform
    exact hform.symm
  obtain ⟨h1, h2, h3, h4, h5, h6, h7, h8, h9, h10, h11'⟩ := hok.bounds
  rw [show S.size - 2 = m by omega]
  refine ⟨by omega, ?_, hok, hfr⟩
  have l1 : (putVal (gK S) 1).length = 1 := putVal_len h1 (by omega) (by omega)
  have l2 : (putVal (gD S) 1).length = 1 := putVal_len h3 (by omega) (by omega)
  have l3 : (putVal (gE S) 2).length = 2 := putVal_len h5 (by omega) (by omega)
  have l4 : (putVal (gS S) 2).length = 2 := putVal_len h7 (by omega) (by omega)
  have l5 : (putVal (gI S) 2).length = 2 := putVal_len h9 (by omega) (by omega)
  have := gnVal_mid (s := S) (x := putVal (gK S) 1 ++ putVal (gD S) 1 ++ putVal (gE S) 2 ++ putVal (gS S) 2 ++ putVal (gI S) 2) (y := putVal ((gB S m).data.toList.length : Int) 1) (z := (gB S m).data.toList ++ putVal (ckVal (head (gK S) (gD S) (gE S) (gS S) (gI S) (gB S m).data.toList)) 2) (p := 8) (n := 1) (v := ((gB S m).data.toList.length : Int))
    (by rw [hfr]; unfold frBytes; rw [head]; simp only [List.append_assoc]) (by simp only [List.length_append]; omega) rfl (by omega) (by omega) (by omega) (by omega)
  rw [show (8 : Int) = ((8 : Nat) : Int) by rfl, show (1 : Int) = ((1 : Nat) : Int) by rfl, this]
  omega
/-- what is read at place 8 where a frame's first nine bytes stand -/
theorem at8 {k d e s i : Int} {n : Nat} {b : List UInt8} {T : ByteArray} {z : List UInt8} (h : FOk k d e s i n) (hT : T.data.toList = putVal k 1 ++ putVal d 1 ++ putVal e 2 ++ putVal s 2 ++ putVal i 2 ++ putVal (n : Int) 1 ++ z) : gnVal T 8 1 = n := by
  obtain ⟨h1, h2, h3, h4, h5, h6, h7, h8, h9, h10, h11⟩ := h.bounds
  have l1 : (putVal k 1).length = 1 := putVal_len h1 (by omega) (by omega)
  have l2 : (putVal d 1).length = 1 := putVal_len h3 (by omega) (by omega)
  have l3 : (putVal e 2).length = 2 := putVal_len h5 (by omega) (by omega)
  have l4 : (putVal s 2).length = 2 := putVal_len h7 (by omega) (by omega)
  have l5 : (putVal i 2).length = 2 := putVal_len h9 (by omega) (by omega)
  exact gnVal_mid (x := putVal k 1 ++ putVal d 1 ++ putVal e 2 ++ putVal s 2 ++ putVal i 2) (y := putVal (n : Int) 1) (z := z) (p := 8) (n := 1) hT (by simp only [List.length_append]; omega) rfl (by omega) (by omega) (by omega) (by omega)
theorem code_cases (S : ByteArray) : gcode S = 0 ∨ gcode S = 1 ∨ gcode S = 2 ∨ gcode S = 3 := by
  unfold gcode
  split
  · exact .inr (.inl rfl)
  · split
    · exact .inr (.inr (.inl rfl))
    · split
      · exact .inl rfl
      · exact .inr (.inr (.inr rfl))
theorem code_short {S : ByteArray} : gcode S = 1 ↔ S.size < 11 := by
  constructor
  · intro h
    refine Decidable.byContradiction fun hx => ?_
    unfold gcode at h
    rw [if_neg hx] at h
    split at h
    · omega
    · split at h <;> omega
  · exact gcode_short
theorem fr_split (k d e s i : Int) (b : List UInt8) : frBytes k d e s i b = putVal k 1 ++ putVal d 1 ++ putVal e 2 ++ putVal s 2 ++ putVal i 2 ++ putVal (b.length : Int) 1 ++ (b ++ putVal (ckVal (head k d e s i b)) 2) := by
  unfold frBytes
  rw [head]
  simp only [List.append_assoc]
/-- a frame's bytes and more can't be read -/
theorem code_more {k d e s i : Int} {b T : ByteArray} {y : List UInt8} (h : FOk k d e s i b.size) (hT : T.data.toList = frBytes k d e s i b.data.toList ++ y) (hy : 0 < y.length) : gcode T = 2 ∨ gcode T = 3 := by
  have hlen := len_size b
  have hl := frBytes_len (b := b.data.toList) (by rw [hlen]; exact h)
  have hsz : T.size = 11 + b.size + y.length := by rw [← len_size, hT, List.length_append, hl, hlen]
  have h8 : gnVal T 8 1 = (b.size : Int) := at8 (n := b.size) (z := b.data.toList ++ putVal (ckVal (head k d e s i b.data.toList)) 2 ++ y) (b := b.data.toList) h (by rw [hT, fr_split, hlen]; simp only [List.append_assoc])
  rcases code_cases T with hc | hc | hc | hc
  · have := (told_len hc).2.1
    omega
  · have := code_short.1 hc
    omega
  · exact .inl hc
  · exact .inr hc
/-- a frame's first bytes can't be read -/
theorem code_less {k d e s i : Int} {b T : ByteArray} {j : Nat} (h : FOk k d e s i b.size) (hT : T.data.toList = (frBytes k d e s i b.data.toList).take j) (hj : j < 11 + b.size) : gcode T ≠ 0 := by
  intro hc
  have hlen := len_size b
  have hl := frBytes_len (b := b.data.toList) (by rw [hlen]; exact h)
  have hsz : T.size = j := by rw [← len_size, hT, List.length_take, hl, hlen]; omega
  obtain ⟨h11, h8, _⟩ := told_len hc
  obtain ⟨b1, b2, b3, b4, b5, b6, b7, b8, b9, b10, b11⟩ := h.bounds
  obtain ⟨A, hA⟩ : ∃ A, A = putVal k 1 ++ putVal d 1 ++ putVal e 2 ++ putVal s 2 ++ putVal i 2 ++ putVal (b.size : Int) 1 := ⟨_, rfl⟩
  have hAl : A.length = 9 := by
    rw [hA]
    simp only [List.length_append]
    rw [putVal_len b1 (by omega) (by omega), putVal_len b3 (by omega) (by omega), putVal_len b5 (by omega) (by omega), putVal_len b7 (by omega) (by omega), putVal_len b9 (by omega) (by omega), putVal_len (by omega) (by omega) (by omega)]
    rfl
  have := at8 (n := b.size) (b := b.data.toList) (T := T) (z := (b.data.toList ++ putVal (ckVal (head k d e s i b.data.toList)) 2).take (j - 9)) h (by
    rw [hT, fr_split, hlen, ← hA, List.take_append, hAl, List.take_of_length_le (by omega)])
  omega
end Go.Proofs.YtgbdmpfojiihnaaDoor.Frm
