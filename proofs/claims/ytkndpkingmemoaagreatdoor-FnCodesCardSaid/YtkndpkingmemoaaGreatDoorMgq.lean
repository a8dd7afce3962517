/-
  Plain facts on numbers read from bytes, the highest first. No Go in sight.
  Plain facts on the bytes of a number, the highest first. No Go in sight.
  Plain facts on the sum that the function Check makes over a list of bytes. No Go in sight.
  Plain facts on frames: when one is right, its bytes. No Go in sight.
  The walks of FrameOk, of the program and of the specification, and of the law FnExactFrameOk.
  The walk of the specification's FrameOk.
  How the exact laws take a frame: its size, its copy, two frames compared; the walk of the law FnExactFrameOk.
  The walks of GetNum, of the program and of the specification: both return gnVal, and turn nothing.
  The walks of PutNum, of the program and of the specification.
  The walks of Check, of the program and of the specification: both return ckVal of the bytes, and turn nothing.
  The writer of frames: what it holds; its methods 'text' and 'number'; 'tellNumbers' with 'number' bound.
  The walk of the specification's PutFrame.
  The walk of the program's PutFrame, and of the law FnExactPutFrame.
  Plain facts on what bytes tell of a frame. No Go in sight.
  The walk of the specification's GetFrame.
  Plain facts on frames: a right frame comes back from its bytes; bytes that can be read tell their length. No Go in sight.
-/
import Derived.Below
import Derived.Test.YtkndpkingmemoaaGreatDoorProg
import Derived.WalkKit
import Derived.WalkSpells
import Derived.WalkLawsBesides
import Derived.Lib.Hide
import Derived.Deep.QuietTactic
import Derived.BigQuiet
import Derived.IntWalk
import Derived.Lib.Strings
import Derived.Test.YtkndpkingmemoaaGreatDoorMge
import Derived.Lib.AppendStr
import Derived.Deep.RegionHeld3
import Derived.Laws.Concat
import Derived.Deep.DeepCutAuto
namespace Go.Proofs.YtkndpkingmemoaaGreatDoor.Num
open Go.RowKit

def gn (l : List UInt8) : Nat := l.foldl (fun n c => n * 256 + c.toNat) 0
theorem gn_snoc (l : List UInt8) (c : UInt8) : gn (l ++ [c]) = gn l * 256 + c.toNat := by
  unfold gn; rw [List.foldl_append]; rfl
theorem gn_lt_aux (l : List UInt8) : ∀ a : Nat, l.foldl (fun n c => n * 256 + c.toNat) a < (a + 1) * 256 ^ l.length := by
  induction l with
  | nil => intro a; simp
  | cons c t ih =>
    intro a
    have h := ih (a * 256 + c.toNat)
    have hc := c.toNat_lt
    have h2 : (a * 256 + c.toNat + 1) * 256 ^ t.length ≤ ((a + 1) * 256) * 256 ^ t.length := Nat.mul_le_mul_right _ (by omega)
    rw [List.foldl_cons, List.length_cons, Nat.pow_succ, Nat.mul_comm (256 ^ t.length) 256, ← Nat.mul_assoc]
    omega
theorem gn_lt (l : List UInt8) : gn l < 256 ^ l.length := by
  have h := gn_lt_aux l 0
  simpa [gn] using h

/-- the bytes that GetNum reads: n of them from place p on -/
def gcut (s : ByteArray) (p n : Nat) : List UInt8 := (s.data.toList.drop p).take n
def gnOk (s : ByteArray) (p n : Int) : Prop := 1 ≤ n ∧ n ≤ 4 ∧ 0 ≤ p ∧ p ≤ s.size - n
instance (s : ByteArray) (p n : Int) : Decidable (gnOk s p n) := by unfold gnOk; infer_instance
def gnVal (s : ByteArray) (p n : Int) : Int := if gnOk s p n then (gn (gcut s p.toNat n.toNat) : Int) else -1
theorem gcut_snoc (s : ByteArray) (p k : Nat) (h : p + k < s.size) : gcut s p (k + 1) = gcut s p k ++ [s[p + k]] := by
  unfold gcut
  have h1 : k < (s.data.toList.drop p).length := by rw [List.length_drop, Array.length_toList]; have : s.data.size = s.size := rfl; omega
  rw [List.take_succ_eq_append_getElem h1, List.getElem_drop]; rfl
theorem gcut_step (s : ByteArray) (p k : Nat) (h : p + k < s.size) : ((gn (gcut s p (k + 1)) : Nat) : Int) = (gn (gcut s p k) : Int) * 256 + (s[p + k].toNat : Int) := by
  rw [gcut_snoc s p k h, gn_snoc]; omega
theorem gcut_len (s : ByteArray) (p k : Nat) : (gcut s p k).length ≤ k := by unfold gcut; exact List.length_take_le _ _
theorem gn_cut_lt (s : ByteArray) (p k : Nat) (h : k ≤ 3) : (gn (gcut s p k) : Int) < 16777216 := by
  have h1 := gn_lt (gcut s p k)
  have h2 : 256 ^ (gcut s p k).length ≤ 256 ^ 3 := Nat.pow_le_pow_right (by decide) (Nat.le_trans (gcut_len s p k) h)
  have h3 : (256 : Nat) ^ 3 = 16777216 := by decide
  omega
theorem byte_lt (c : UInt8) : (c.toNat : Int) < 256 := by have := c.toNat_lt; omega
theorem ret_int {k : IntKind} {a b : Int} (h : a = b) : Ending.returned (.int k a) = .returned (.int k b) := by rw [h]
theorem gnVal_bad {s : ByteArray} {p n : Int} (h : ¬ gnOk s p n) : gnVal s p n = -1 := if_neg h
theorem gnVal_ok {s : ByteArray} {p n : Int} (h : gnOk s p n) : gnVal s p n = (gn (gcut s p.toNat n.toNat) : Int) := if_pos h
end Go.Proofs.YtkndpkingmemoaaGreatDoor.Num
namespace Go.Proofs.YtkndpkingmemoaaGreatDoor.Num
open Go.RowKit

def pb : Nat → Nat → List UInt8
  | 0, _ => []
  | b + 1, n => pb b (n / 256) ++ [UInt8.ofNat n]
theorem pb_len (b : Nat) : ∀ n, (pb b n).length = b := by
  induction b with
  | zero => intro n; rfl
  | succ b ih => intro n; rw [pb, List.length_append, ih]; rfl
theorem pb_get (b : Nat) : ∀ n j, j < b → (pb b n)[j]? = some (UInt8.ofNat (n / 256 ^ (b - 1 - j))) := by
  induction b with
  | zero => intro n j h; omega
  | succ b ih =>
    intro n j h
    rw [pb]
    by_cases hj : j < b
    · rw [List.getElem?_append_left (by rw [pb_len]; exact hj), ih _ _ hj]
      have e : b + 1 - 1 - j = (b - 1 - j) + 1 := by omega
      rw [e, Nat.pow_succ, Nat.mul_comm, Nat.div_div_eq_div_mul]
    · have : j = b := by omega
      subst this
      rw [List.getElem?_append_right (by rw [pb_len]; omega), pb_len]
      simp
theorem pb_take (b n j : Nat) (h : j < b) : (pb b n).take (j + 1) = (pb b n).take j ++ [UInt8.ofNat (n / 256 ^ (b - 1 - j))] := by
  rw [List.take_add_one, pb_get b n j h]; rfl
theorem byte_of (x : Nat) : ((UInt8.ofNat x).toNat : Int) = (x : Int) % 256 := by
  rw [UInt8.toNat_ofNat']; omega
theorem shr_eq (n b j : Nat) (q : Int) (hq : q = (b : Int) - 1 - j) (hj : j < b) : (n : Int) / 2 ^ (8 * q).toNat % 256 = ((UInt8.ofNat (n / 256 ^ (b - 1 - j))).toNat : Int) := by
  have e : (8 * q).toNat = 8 * (b - 1 - j) := by omega
  have e2 : (2 : Int) ^ (8 * (b - 1 - j)) = ((256 ^ (b - 1 - j) : Nat) : Int) := by
    rw [Int.pow_mul]; simp
  rw [byte_of, e, e2, Int.natCast_ediv]
theorem gn_pb (b : Nat) : ∀ n, gn (pb b n) = n % 256 ^ b := by
  induction b with
  | zero => intro n; simp [pb, gn, Nat.mod_one]
  | succ b ih =>
    intro n
    rw [pb, gn_snoc, ih, Nat.pow_succ, UInt8.toNat_ofNat', Nat.mul_comm (256 ^ b) 256, Nat.mod_mul]
    omega
theorem pb_cons (b : Nat) : ∀ n, pb (b + 1) n = UInt8.ofNat (n / 256 ^ b) :: pb b n := by
  induction b with
  | zero => intro n; simp [pb]
  | succ b ih =>
    intro n
    rw [pb, ih, pb, List.cons_append, Nat.pow_succ, Nat.mul_comm, Nat.div_div_eq_div_mul]
/-- the row behind j rounds: noughts, and the j lowest bytes -/
def prow (b n j : Nat) : List Value := List.replicate (b - j) (.int .u8 0) ++ (pb j n).map fun c => Value.int .u8 (c.toNat : Int)
theorem prow_len (b n j : Nat) (h : j ≤ b) : (prow b n j).length = b := by unfold prow; simp [pb_len]; omega
theorem prow_set (b n j : Nat) (h : j < b) (u : Value) (hu : u = .int .u8 (((n / 256 ^ j : Nat) : Int) % 256)) : (prow b n j).set (b - 1 - j) u = prow b n (j + 1) := by
  have e : b - j = (b - (j + 1)) + 1 := by omega
  have e2 : b - 1 - j = b - (j + 1) := by omega
  have hu2 : u = .int .u8 ((UInt8.ofNat (n / 256 ^ j)).toNat : Int) := by rw [hu, byte_of]
  unfold prow
  rw [e, e2, pb_cons, List.replicate_succ', List.append_assoc, List.set_append_right _ _ (by simp)]
  simp [hu2]
theorem div_step (n j : Nat) : (((n / 256 ^ j : Nat) : Int)) / 256 = ((n / 256 ^ (j + 1) : Nat) : Int) := by
  rw [Nat.pow_succ, ← Nat.div_div_eq_div_mul]; simp
theorem div_le (n j : Nat) (h : (n : Int) ≤ 9223372036854775807) : ((n / 256 ^ j : Nat) : Int) ≤ 9223372036854775807 := by
  have := Nat.div_le_self n (256 ^ j); omega
theorem nat_cast_nonneg (m : Nat) : (0 : Int) ≤ (m : Int) := Int.natCast_nonneg m
/-- what PutNum tells, for all numbers -/
def putOk (n b : Int) : Prop := 0 ≤ n ∧ 1 ≤ b ∧ b ≤ 4
instance (n b : Int) : Decidable (putOk n b) := by unfold putOk; infer_instance
def putVal (n b : Int) : List UInt8 := if putOk n b then pb b.toNat n.toNat else []
theorem putVal_ok {n b : Int} (h : putOk n b) : putVal n b = pb b.toNat n.toNat := if_pos h
theorem putVal_bad {n b : Int} (h : ¬ putOk n b) : putVal n b = [] := if_neg h
end Go.Proofs.YtkndpkingmemoaaGreatDoor.Num
namespace Go.Proofs.YtkndpkingmemoaaGreatDoor
open Go.RowKit

/-- one step of the sum: (a, b) behind one byte more -/
def ckStep (p : Nat × Nat) (c : UInt8) : Nat × Nat := ((p.1 + c.toNat) % 255, (p.2 + (p.1 + c.toNat) % 255) % 255)
def ck (l : List UInt8) : Nat × Nat := l.foldl ckStep (0, 0)
def ckVal (l : List UInt8) : Int := 256 * ((ck l).2 : Int) + ((ck l).1 : Int)

theorem ck_snoc (l : List UInt8) (c : UInt8) : ck (l ++ [c]) = ckStep (ck l) c := by
  unfold ck; rw [List.foldl_append]; rfl
theorem ck_lt (l : List UInt8) : (ck l).1 < 255 ∧ (ck l).2 < 255 := by
  rcases List.eq_nil_or_concat l with h | ⟨t, c, h⟩
  · subst h; decide
  · subst h; rw [List.concat_eq_append, ck_snoc]; exact ⟨Nat.mod_lt _ (by decide), Nat.mod_lt _ (by decide)⟩
theorem ck_lt' (l : List UInt8) : ((ck l).1 : Int) < 255 ∧ ((ck l).2 : Int) < 255 := by
  have := ck_lt l; omega
theorem byte_lt (c : UInt8) : (c.toNat : Int) < 256 := by have := c.toNat_lt; omega
theorem take_snoc (s : ByteArray) (k : Nat) (h : k < s.size) : s.data.toList.take (k + 1) = s.data.toList.take k ++ [s[k]] := by
  rw [List.take_succ_eq_append_getElem (by simpa using h)]; rfl
theorem ck_take_succ (s : ByteArray) (k : Nat) (h : k < s.size) :
    ((ck (s.data.toList.take (k + 1))).1 : Int) = (((ck (s.data.toList.take k)).1 : Int) + (s[k].toNat : Int)) % 255 ∧
    ((ck (s.data.toList.take (k + 1))).2 : Int) = (((ck (s.data.toList.take k)).2 : Int) + (((ck (s.data.toList.take k)).1 : Int) + (s[k].toNat : Int)) % 255) % 255 := by
  rw [take_snoc s k h, ck_snoc]
  unfold ckStep
  refine ⟨?_, ?_⟩ <;> simp only [Int.natCast_emod, Int.natCast_add] <;> rfl
theorem ret_int {k : IntKind} {a b : Int} (h : a = b) : Ending.returned (.int k a) = .returned (.int k b) := by rw [h]
end Go.Proofs.YtkndpkingmemoaaGreatDoor
namespace Go.Proofs.YtkndpkingmemoaaGreatDoor.Frm
open Go.RowKit Go.Proofs.YtkndpkingmemoaaGreatDoor.Num
set_option linter.unusedVariables false

/-- a right frame, n bytes in its body -/
def FOk (k d e s i : Int) (n : Nat) : Prop :=
  1 ≤ k ∧ k ≤ 4 ∧ 1 ≤ d ∧ d ≤ 6 ∧ 0 ≤ e ∧ e ≤ 60000 ∧ ((k = 3 ∧ s = 0) ∨ (k ≠ 3 ∧ 1 ≤ s ∧ s ≤ 60000)) ∧ ((k = 1 ∧ 1 ≤ i ∧ i ≤ 9999 ∧ n ≤ 40) ∨ (k ≠ 1 ∧ i = 0 ∧ n = 0))
instance (k d e s i : Int) (n : Nat) : Decidable (FOk k d e s i n) := by unfold FOk; infer_instance
def fokB (k d e s i : Int) (n : Nat) : Bool := decide (FOk k d e s i n)
theorem fokB_yes {k d e s i : Int} {n : Nat} (h : FOk k d e s i n) : fokB k d e s i n = true := decide_eq_true h
theorem fokB_no {k d e s i : Int} {n : Nat} (h : ¬ FOk k d e s i n) : fokB k d e s i n = false := decide_eq_false h
theorem FOk.bounds {k d e s i : Int} {n : Nat} (h : FOk k d e s i n) : 0 ≤ k ∧ k ≤ 4 ∧ 0 ≤ d ∧ d ≤ 6 ∧ 0 ≤ e ∧ e ≤ 60000 ∧ 0 ≤ s ∧ s ≤ 60000 ∧ 0 ≤ i ∧ i ≤ 9999 ∧ n ≤ 40 := by unfold FOk at h; omega

/-- the bytes ahead of the sum -/
def head (k d e s i : Int) (b : List UInt8) : List UInt8 :=
  putVal k 1 ++ putVal d 1 ++ putVal e 2 ++ putVal s 2 ++ putVal i 2 ++ putVal b.length 1 ++ b
/-- a frame's bytes -/
def frBytes (k d e s i : Int) (b : List UInt8) : List UInt8 := head k d e s i b ++ putVal (ckVal (head k d e s i b)) 2
def putF (k d e s i : Int) (b : List UInt8) : List UInt8 := if FOk k d e s i b.length then frBytes k d e s i b else []
theorem putF_yes {k d e s i : Int} {b : List UInt8} (h : FOk k d e s i b.length) : putF k d e s i b = frBytes k d e s i b := if_pos h
theorem putF_no {k d e s i : Int} {b : List UInt8} (h : ¬ FOk k d e s i b.length) : putF k d e s i b = [] := if_neg h
theorem putVal_len {n b : Int} (h0 : 0 ≤ n) (h1 : 1 ≤ b) (h4 : b ≤ 4) : (putVal n b).length = b.toNat := by rw [putVal_ok ⟨h0, h1, h4⟩, pb_len]
theorem ckVal_bd (l : List UInt8) : 0 ≤ ckVal l ∧ ckVal l ≤ 65278 := by
  have := ck_lt' l
  unfold ckVal
  omega
theorem head_len {k d e s i : Int} {b : List UInt8} (h : FOk k d e s i b.length) : (head k d e s i b).length = 9 + b.length := by
  obtain ⟨h1, h2, h3, h4, h5, h6, h7, h8, h9, h10, h11⟩ := h.bounds
  unfold head
  simp only [List.length_append]
  rw [putVal_len h1 (by omega) (by omega), putVal_len h3 (by omega) (by omega), putVal_len h5 (by omega) (by omega), putVal_len h7 (by omega) (by omega), putVal_len h9 (by omega) (by omega), putVal_len (by omega) (by omega) (by omega)]
  omega
theorem frBytes_len {k d e s i : Int} {b : List UInt8} (h : FOk k d e s i b.length) : (frBytes k d e s i b).length = 11 + b.length := by
  unfold frBytes
  rw [List.length_append, head_len h, putVal_len (ckVal_bd _).1 (by omega) (by omega)]
  omega
end Go.Proofs.YtkndpkingmemoaaGreatDoor.Frm
namespace Go.Proofs.YtkndpkingmemoaaGreatDoor.Frm
open Go.RowKit
set_option linter.unusedVariables false

theorem bool_iff {p q : Prop} [Decidable p] [Decidable q] (h : p ↔ q) : Ending.returned (.bool (decide p)) = Ending.returned (.bool (decide q)) := by rw [decide_eq_decide.2 h]
theorem bool_no {p : Prop} [Decidable p] (h : ¬ p) : Ending.returned (.bool false) = Ending.returned (.bool (decide p)) := by rw [decide_eq_false h]
theorem bool_yes {p : Prop} [Decidable p] (h : p) : Ending.returned (.bool true) = Ending.returned (.bool (decide p)) := by rw [decide_eq_true h]
theorem bytes_len (s : ByteArray) : s.data.toList.length = s.size := by rw [Array.length_toList]; rfl
theorem ne_empty (s : ByteArray) (h : 0 < s.size) : s.toList.isEmpty = false := by
  rw [Lib.toList_data]
  cases hl : s.data.toList with
  | nil => have := bytes_len s; rw [hl] at this; simp at this; omega
  | cons _ _ => rfl
theorem is_empty (s : ByteArray) (h : s.size = 0) : s.toList.isEmpty = true := by
  rw [Lib.toList_data]
  have := bytes_len s
  cases hl : s.data.toList with
  | nil => rfl
  | cons _ _ => rw [hl] at this; simp at this; omega

theorem in_any (x a b : Int) (w : World) :
    Calls Tryz.prog 63 #[.int .i64 x, .int .i64 a, .int .i64 b] w fun e w' => e = .returned (.bool (decide (a ≤ x ∧ x ≤ b))) ∧ w = w' := by
  go_enter Tryz.func63, Tryz.ntmps63
  go_wp2
  all_goals
    go_ret
    refine ⟨?_, rfl⟩
    first
      | exact bool_iff (by omega)
      | exact bool_no (by omega)
      | (simp; intro; omega)

theorem kinds (k : Int) : k = 1 ∨ k = 2 ∨ k = 3 ∨ k = 4 ∨ ((k == 1) = false ∧ (k == 2) = false ∧ (k == 3) = false ∧ (k == 4) = false ∧ (k < 1 ∨ 4 < k)) := by
  rcases Int.lt_or_le k 1 with h | h
  · exact .inr (.inr (.inr (.inr ⟨beq_eq_false_iff_ne.2 (by omega), beq_eq_false_iff_ne.2 (by omega), beq_eq_false_iff_ne.2 (by omega), beq_eq_false_iff_ne.2 (by omega), .inl h⟩)))
  · rcases Int.lt_or_le 4 k with h4 | h4
    · exact .inr (.inr (.inr (.inr ⟨beq_eq_false_iff_ne.2 (by omega), beq_eq_false_iff_ne.2 (by omega), beq_eq_false_iff_ne.2 (by omega), beq_eq_false_iff_ne.2 (by omega), .inr h4⟩)))
    · omega
theorem zero_or (i : Int) : i = 0 ∨ ((i == 0) = false ∧ (i < 0 ∨ 0 < i)) := by
  by_cases h : i = 0
  · exact .inl h
  · exact .inr ⟨beq_eq_false_iff_ne.2 h, by omega⟩
theorem emp_or (b : ByteArray) : (b.size = 0 ∧ b.toList.isEmpty = true) ∨ (0 < b.size ∧ b.toList.isEmpty = false) := by
  rcases Nat.eq_zero_or_pos b.size with h0 | h0
  · exact .inl ⟨h0, is_empty b h0⟩
  · exact .inr ⟨h0, ne_empty b h0⟩

set_option maxRecDepth 100000 in
set_option maxHeartbeats 1000000 in
theorem implOk_de (k d e s i : Int) (b : ByteArray) (w : World) (hb : b.size ≤ maxLen) (h : ¬ (1 ≤ d ∧ d ≤ 6 ∧ 0 ≤ e ∧ e ≤ 60000)) :
    Calls Tryz.prog 192 #[.agg #[.int .i64 k, .int .i64 d, .int .i64 e, .int .i64 s, .int .i64 i, .string b]] w fun en w' => en = .returned (.bool (fokB k d e s i b.size)) ∧ Below w.heap.size w w' := by
  unfold maxLen at hb
  go_enter Tryz.func192, Tryz.ntmps192
  rcases (show d < 1 ∨ 6 < d ∨ e < 0 ∨ 60000 < e by omega) with hx | hx | hx | hx
  all_goals
    clear h
  all_goals
    go_wp2
    all_goals
      go_ret
      refine ⟨?_, ?_⟩
      · unfold fokB FOk
        first
          | exact bool_no (by omega)
          | exact bool_yes (by omega)
          | exact bool_iff (by omega)
      · repeat' first | exact Below.refl _ _ | (refine Below.alloc ?_ (by simp; try omega) _)

set_option maxRecDepth 100000 in
set_option maxHeartbeats 1000000 in
theorem implOk_1 (d e s i : Int) (b : ByteArray) (w : World) (hb : b.size ≤ maxLen) (hd1 : 1 ≤ d) (hd6 : d ≤ 6) (he0 : 0 ≤ e) (he1 : e ≤ 60000) :
    Calls Tryz.prog 192 #[.agg #[.int .i64 1, .int .i64 d, .int .i64 e, .int .i64 s, .int .i64 i, .string b]] w fun en w' => en = .returned (.bool (fokB 1 d e s i b.size)) ∧ Below w.heap.size w w' := by
  unfold maxLen at hb
  go_enter Tryz.func192, Tryz.ntmps192
  all_goals
    go_wp2
    all_goals
      go_ret
      refine ⟨?_, ?_⟩
      · unfold fokB FOk
        first
          | exact bool_no (by omega)
          | exact bool_yes (by omega)
          | exact bool_iff (by omega)
      · repeat' first | exact Below.refl _ _ | (refine Below.alloc ?_ (by simp; try omega) _)

set_option maxRecDepth 100000 in
set_option maxHeartbeats 1000000 in
theorem implOk_2 (d e s i : Int) (b : ByteArray) (w : World) (hb : b.size ≤ maxLen) (hd1 : 1 ≤ d) (hd6 : d ≤ 6) (he0 : 0 ≤ e) (he1 : e ≤ 60000) :
    Calls Tryz.prog 192 #[.agg #[.int .i64 2, .int .i64 d, .int .i64 e, .int .i64 s, .int .i64 i, .string b]] w fun en w' => en = .returned (.bool (fokB 2 d e s i b.size)) ∧ Below w.heap.size w w' := by
  unfold maxLen at hb
  go_enter Tryz.func192, Tryz.ntmps192
  rcases zero_or i with rfl | ⟨hi1, hi⟩
  all_goals
    rcases emp_or b with ⟨h0, hem⟩ | ⟨h0, hem⟩
  all_goals
    go_wp2
    all_goals
      go_ret
      refine ⟨?_, ?_⟩
      · unfold fokB FOk
        first
          | exact bool_no (by omega)
          | exact bool_yes (by omega)
          | exact bool_iff (by omega)
      · repeat' first | exact Below.refl _ _ | (refine Below.alloc ?_ (by simp; try omega) _)

set_option maxRecDepth 100000 in
set_option maxHeartbeats 1000000 in
theorem implOk_3 (d e s i : Int) (b : ByteArray) (w : World) (hb : b.size ≤ maxLen) (hd1 : 1 ≤ d) (hd6 : d ≤ 6) (he0 : 0 ≤ e) (he1 : e ≤ 60000) :
    Calls Tryz.prog 192 #[.agg #[.int .i64 3, .int .i64 d, .int .i64 e, .int .i64 s, .int .i64 i, .string b]] w fun en w' => en = .returned (.bool (fokB 3 d e s i b.size)) ∧ Below w.heap.size w w' := by
  unfold maxLen at hb
  go_enter Tryz.func192, Tryz.ntmps192
  rcases zero_or i with rfl | ⟨hi1, hi⟩
  all_goals
    rcases emp_or b with ⟨h0, hem⟩ | ⟨h0, hem⟩
  all_goals
    rcases zero_or s with rfl | ⟨hs1, hs⟩
  all_goals
    go_wp2
    all_goals
      go_ret
      refine ⟨?_, ?_⟩
      · unfold fokB FOk
        first
          | exact bool_no (by omega)
          | exact bool_yes (by omega)
          | exact bool_iff (by omega)
      · repeat' first | exact Below.refl _ _ | (refine Below.alloc ?_ (by simp; try omega) _)

set_option maxRecDepth 100000 in
set_option maxHeartbeats 1000000 in
theorem implOk_4 (d e s i : Int) (b : ByteArray) (w : World) (hb : b.size ≤ maxLen) (hd1 : 1 ≤ d) (hd6 : d ≤ 6) (he0 : 0 ≤ e) (he1 : e ≤ 60000) :
    Calls Tryz.prog 192 #[.agg #[.int .i64 4, .int .i64 d, .int .i64 e, .int .i64 s, .int .i64 i, .string b]] w fun en w' => en = .returned (.bool (fokB 4 d e s i b.size)) ∧ Below w.heap.size w w' := by
  unfold maxLen at hb
  go_enter Tryz.func192, Tryz.ntmps192
  rcases zero_or i with rfl | ⟨hi1, hi⟩
  all_goals
    rcases emp_or b with ⟨h0, hem⟩ | ⟨h0, hem⟩
  all_goals
    go_wp2
    all_goals
      go_ret
      refine ⟨?_, ?_⟩
      · unfold fokB FOk
        first
          | exact bool_no (by omega)
          | exact bool_yes (by omega)
          | exact bool_iff (by omega)
      · repeat' first | exact Below.refl _ _ | (refine Below.alloc ?_ (by simp; try omega) _)

set_option maxRecDepth 100000 in
set_option maxHeartbeats 1000000 in
theorem implOk_no (k d e s i : Int) (b : ByteArray) (w : World) (hb : b.size ≤ maxLen) (hd1 : 1 ≤ d) (hd6 : d ≤ 6) (he0 : 0 ≤ e) (he1 : e ≤ 60000) (hk1 : (k == 1) = false) (hk2 : (k == 2) = false) (hk3 : (k == 3) = false) (hk4 : (k == 4) = false) (hk : k < 1 ∨ 4 < k) :
    Calls Tryz.prog 192 #[.agg #[.int .i64 k, .int .i64 d, .int .i64 e, .int .i64 s, .int .i64 i, .string b]] w fun en w' => en = .returned (.bool (fokB k d e s i b.size)) ∧ Below w.heap.size w w' := by
  unfold maxLen at hb
  go_enter Tryz.func192, Tryz.ntmps192
  all_goals
    go_wp2
    all_goals
      go_ret
      refine ⟨?_, ?_⟩
      · unfold fokB FOk
        first
          | exact bool_no (by omega)
          | exact bool_yes (by omega)
          | exact bool_iff (by omega)
      · repeat' first | exact Below.refl _ _ | (refine Below.alloc ?_ (by simp; try omega) _)

theorem implOk_any (k d e s i : Int) (b : ByteArray) (w : World) (hb : b.size ≤ maxLen) :
    Calls Tryz.prog 192 #[.agg #[.int .i64 k, .int .i64 d, .int .i64 e, .int .i64 s, .int .i64 i, .string b]] w fun en w' => en = .returned (.bool (fokB k d e s i b.size)) ∧ Below w.heap.size w w' := by
  by_cases h : 1 ≤ d ∧ d ≤ 6 ∧ 0 ≤ e ∧ e ≤ 60000
  · obtain ⟨h1, h2, h3, h4⟩ := h
    rcases kinds k with rfl | rfl | rfl | rfl | ⟨hk1, hk2, hk3, hk4, hk⟩
    · exact implOk_1 d e s i b w hb h1 h2 h3 h4
    · exact implOk_2 d e s i b w hb h1 h2 h3 h4
    · exact implOk_3 d e s i b w hb h1 h2 h3 h4
    · exact implOk_4 d e s i b w hb h1 h2 h3 h4
    · exact implOk_no k d e s i b w hb h1 h2 h3 h4 hk1 hk2 hk3 hk4 hk
  · exact implOk_de k d e s i b w hb h

end Go.Proofs.YtkndpkingmemoaaGreatDoor.Frm
namespace Go.Proofs.YtkndpkingmemoaaGreatDoor.Frm
open Go.RowKit
set_option linter.unusedVariables false

theorem low_drewN {B : Nat} {a w : World} (h : Below B a w) (n : Nat) : Below B a (w.drewN n) := h.trans ⟨rfl, rfl, rfl, Nat.le_refl _, fun _ _ => rfl⟩

set_option maxRecDepth 100000 in
set_option maxHeartbeats 1000000 in
theorem specOk_de (k d e s i : Int) (b : ByteArray) (w : World) (hb : b.size ≤ maxLen) (h : ¬ (1 ≤ d ∧ d ≤ 6 ∧ 0 ≤ e ∧ e ≤ 60000)) :
    Calls Tryz.prog 67 #[.agg #[.int .i64 k, .int .i64 d, .int .i64 e, .int .i64 s, .int .i64 i, .string b]] w fun en w' => en = .returned (.bool (fokB k d e s i b.size)) ∧ Below w.heap.size w w' := by
  unfold maxLen at hb
  go_enter Tryz.func67, Tryz.ntmps67
  rcases zero_or i with rfl | ⟨hi1, hi⟩
  all_goals
    rcases emp_or b with ⟨h0, hem⟩ | ⟨h0, hem⟩
  all_goals
    go_wp2_with fail
    go_quiet (first | exact (in_any _ _ _ _).mono fun _ _ h => ⟨h.1, _, h.2.symm⟩)
    go_wp2
    all_goals
      go_ret
      refine ⟨?_, ?_⟩
      · unfold fokB FOk
        first
          | exact bool_no (by omega)
          | exact bool_yes (by omega)
          | exact bool_iff (by omega)
      · repeat' first | exact Below.refl _ _ | (refine Below.alloc ?_ (by simp; try omega) _) | refine low_drewN ?_ _

set_option maxRecDepth 100000 in
set_option maxHeartbeats 1000000 in
theorem specOk_1 (d e s i : Int) (b : ByteArray) (w : World) (hb : b.size ≤ maxLen) (hd1 : 1 ≤ d) (hd6 : d ≤ 6) (he0 : 0 ≤ e) (he1 : e ≤ 60000) :
    Calls Tryz.prog 67 #[.agg #[.int .i64 1, .int .i64 d, .int .i64 e, .int .i64 s, .int .i64 i, .string b]] w fun en w' => en = .returned (.bool (fokB 1 d e s i b.size)) ∧ Below w.heap.size w w' := by
  unfold maxLen at hb
  go_enter Tryz.func67, Tryz.ntmps67
  rcases zero_or i with rfl | ⟨hi1, hi⟩
  all_goals
    rcases emp_or b with ⟨h0, hem⟩ | ⟨h0, hem⟩
  all_goals
    go_wp2_with fail
    go_quiet (first | exact (in_any _ _ _ _).mono fun _ _ h => ⟨h.1, _, h.2.symm⟩)
    go_wp2
    all_goals
      go_ret
      refine ⟨?_, ?_⟩
      · unfold fokB FOk
        first
          | exact bool_no (by omega)
          | exact bool_yes (by omega)
          | exact bool_iff (by omega)
      · repeat' first | exact Below.refl _ _ | (refine Below.alloc ?_ (by simp; try omega) _) | refine low_drewN ?_ _

set_option maxRecDepth 100000 in
set_option maxHeartbeats 1000000 in
theorem specOk_2 (d e s i : Int) (b : ByteArray) (w : World) (hb : b.size ≤ maxLen) (hd1 : 1 ≤ d) (hd6 : d ≤ 6) (he0 : 0 ≤ e) (he1 : e ≤ 60000) :
    Calls Tryz.prog 67 #[.agg #[.int .i64 2, .int .i64 d, .int .i64 e, .int .i64 s, .int .i64 i, .string b]] w fun en w' => en = .returned (.bool (fokB 2 d e s i b.size)) ∧ Below w.heap.size w w' := by
  unfold maxLen at hb
  go_enter Tryz.func67, Tryz.ntmps67
  rcases zero_or i with rfl | ⟨hi1, hi⟩
  all_goals
    rcases emp_or b with ⟨h0, hem⟩ | ⟨h0, hem⟩
  all_goals
    go_wp2_with fail
    go_quiet (first | exact (in_any _ _ _ _).mono fun _ _ h => ⟨h.1, _, h.2.symm⟩)
    go_wp2
    all_goals
      go_ret
      refine ⟨?_, ?_⟩
      · unfold fokB FOk
        first
          | exact bool_no (by omega)
          | exact bool_yes (by omega)
          | exact bool_iff (by omega)
      · repeat' first | exact Below.refl _ _ | (refine Below.alloc ?_ (by simp; try omega) _) | refine low_drewN ?_ _

set_option maxRecDepth 100000 in
set_option maxHeartbeats 1000000 in
theorem specOk_3 (d e s i : Int) (b : ByteArray) (w : World) (hb : b.size ≤ maxLen) (hd1 : 1 ≤ d) (hd6 : d ≤ 6) (he0 : 0 ≤ e) (he1 : e ≤ 60000) :
    Calls Tryz.prog 67 #[.agg #[.int .i64 3, .int .i64 d, .int .i64 e, .int .i64 s, .int .i64 i, .string b]] w fun en w' => en = .returned (.bool (fokB 3 d e s i b.size)) ∧ Below w.heap.size w w' := by
  unfold maxLen at hb
  go_enter Tryz.func67, Tryz.ntmps67
  rcases zero_or i with rfl | ⟨hi1, hi⟩
  all_goals
    rcases emp_or b with ⟨h0, hem⟩ | ⟨h0, hem⟩
  all_goals
    rcases zero_or s with rfl | ⟨hs1, hs⟩
  all_goals
    go_wp2_with fail
    go_quiet (first | exact (in_any _ _ _ _).mono fun _ _ h => ⟨h.1, _, h.2.symm⟩)
    go_wp2
    all_goals
      go_ret
      refine ⟨?_, ?_⟩
      · unfold fokB FOk
        first
          | exact bool_no (by omega)
          | exact bool_yes (by omega)
          | exact bool_iff (by omega)
      · repeat' first | exact Below.refl _ _ | (refine Below.alloc ?_ (by simp; try omega) _) | refine low_drewN ?_ _

set_option maxRecDepth 100000 in
set_option maxHeartbeats 1000000 in
theorem specOk_4 (d e s i : Int) (b : ByteArray) (w : World) (hb : b.size ≤ maxLen) (hd1 : 1 ≤ d) (hd6 : d ≤ 6) (he0 : 0 ≤ e) (he1 : e ≤ 60000) :
    Calls Tryz.prog 67 #[.agg #[.int .i64 4, .int .i64 d, .int .i64 e, .int .i64 s, .int .i64 i, .string b]] w fun en w' => en = .returned (.bool (fokB 4 d e s i b.size)) ∧ Below w.heap.size w w' := by
  unfold maxLen at hb
  go_enter Tryz.func67, Tryz.ntmps67
  rcases zero_or i with rfl | ⟨hi1, hi⟩
  all_goals
    rcases emp_or b with ⟨h0, hem⟩ | ⟨h0, hem⟩
  all_goals
    go_wp2_with fail
    go_quiet (first | exact (in_any _ _ _ _).mono fun _ _ h => ⟨h.1, _, h.2.symm⟩)
    go_wp2
    all_goals
      go_ret
      refine ⟨?_, ?_⟩
      · unfold fokB FOk
        first
          | exact bool_no (by omega)
          | exact bool_yes (by omega)
          | exact bool_iff (by omega)
      · repeat' first | exact Below.refl _ _ | (refine Below.alloc ?_ (by simp; try omega) _) | refine low_drewN ?_ _

set_option maxRecDepth 100000 in
set_option maxHeartbeats 1000000 in
theorem specOk_no (k d e s i : Int) (b : ByteArray) (w : World) (hb : b.size ≤ maxLen) (hd1 : 1 ≤ d) (hd6 : d ≤ 6) (he0 : 0 ≤ e) (he1 : e ≤ 60000) (hk1 : (k == 1) = false) (hk2 : (k == 2) = false) (hk3 : (k == 3) = false) (hk4 : (k == 4) = false) (hk : k < 1 ∨ 4 < k) :
    Calls Tryz.prog 67 #[.agg #[.int .i64 k, .int .i64 d, .int .i64 e, .int .i64 s, .int .i64 i, .string b]] w fun en w' => en = .returned (.bool (fokB k d e s i b.size)) ∧ Below w.heap.size w w' := by
  unfold maxLen at hb
  go_enter Tryz.func67, Tryz.ntmps67
  rcases zero_or i with rfl | ⟨hi1, hi⟩
  all_goals
    rcases emp_or b with ⟨h0, hem⟩ | ⟨h0, hem⟩
  all_goals
    go_wp2_with fail
    go_quiet (first | exact (in_any _ _ _ _).mono fun _ _ h => ⟨h.1, _, h.2.symm⟩)
    go_wp2
    all_goals
      go_ret
      refine ⟨?_, ?_⟩
      · unfold fokB FOk
        first
          | exact bool_no (by omega)
          | exact bool_yes (by omega)
          | exact bool_iff (by omega)
      · repeat' first | exact Below.refl _ _ | (refine Below.alloc ?_ (by simp; try omega) _) | refine low_drewN ?_ _

theorem specOk_any (k d e s i : Int) (b : ByteArray) (w : World) (hb : b.size ≤ maxLen) :
    Calls Tryz.prog 67 #[.agg #[.int .i64 k, .int .i64 d, .int .i64 e, .int .i64 s, .int .i64 i, .string b]] w fun en w' => en = .returned (.bool (fokB k d e s i b.size)) ∧ Below w.heap.size w w' := by
  by_cases h : 1 ≤ d ∧ d ≤ 6 ∧ 0 ≤ e ∧ e ≤ 60000
  · obtain ⟨h1, h2, h3, h4⟩ := h
    rcases kinds k with rfl | rfl | rfl | rfl | ⟨hk1, hk2, hk3, hk4, hk⟩
    · exact specOk_1 d e s i b w hb h1 h2 h3 h4
    · exact specOk_2 d e s i b w hb h1 h2 h3 h4
    · exact specOk_3 d e s i b w hb h1 h2 h3 h4
    · exact specOk_4 d e s i b w hb h1 h2 h3 h4
    · exact specOk_no k d e s i b w hb h1 h2 h3 h4 hk1 hk2 hk3 hk4 hk
  · exact specOk_de k d e s i b w hb h
end Go.Proofs.YtkndpkingmemoaaGreatDoor.Frm
namespace Go.Proofs.YtkndpkingmemoaaGreatDoor.Frm
open Go.RowKit
set_option linter.unusedVariables false

/-- a frame's box -/
structure B6 (w : World) (a : Nat) (k d e s i : Int) (b : ByteArray) : Prop where
  c0 : w.cell? ⟨a, 0, none⟩ = some (.int .i64 k)
  c1 : w.cell? ⟨a, 1, none⟩ = some (.int .i64 d)
  c2 : w.cell? ⟨a, 2, none⟩ = some (.int .i64 e)
  c3 : w.cell? ⟨a, 3, none⟩ = some (.int .i64 s)
  c4 : w.cell? ⟨a, 4, none⟩ = some (.int .i64 i)
  c5 : w.cell? ⟨a, 5, none⟩ = some (.string b)
  lt : a < w.heap.size
theorem B6.new (w : World) (k d e s i : Int) (b : ByteArray) (ty : TypeId) : B6 (w.alloc (.cells #[.int .i64 k, .int .i64 d, .int .i64 e, .int .i64 s, .int .i64 i, .string b] ty)) w.heap.size k d e s i b :=
  ⟨cell_of_row _ _ 0 _ ty (0, 0) (heap_alloc_new w _), cell_of_row _ _ 1 _ ty (0, 0) (heap_alloc_new w _), cell_of_row _ _ 2 _ ty (0, 0) (heap_alloc_new w _), cell_of_row _ _ 3 _ ty (0, 0) (heap_alloc_new w _), cell_of_row _ _ 4 _ ty (0, 0) (heap_alloc_new w _), cell_of_row _ _ 5 _ ty (0, 0) (heap_alloc_new w _), by simp⟩
theorem B6.below {w w' : World} {a : Nat} {k d e s i : Int} {b : ByteArray} (h : B6 w a k d e s i b) (hb : Below w.heap.size w w') : B6 w' a k d e s i b :=
  ⟨(hb.cell (p := ⟨a, 0, none⟩) h.lt).trans h.c0, (hb.cell (p := ⟨a, 1, none⟩) h.lt).trans h.c1, (hb.cell (p := ⟨a, 2, none⟩) h.lt).trans h.c2, (hb.cell (p := ⟨a, 3, none⟩) h.lt).trans h.c3, (hb.cell (p := ⟨a, 4, none⟩) h.lt).trans h.c4, (hb.cell (p := ⟨a, 5, none⟩) h.lt).trans h.c5, Nat.lt_of_lt_of_le h.lt hb.size⟩
theorem bOne (w : World) (o : Obj) : Below w.heap.size w (w.alloc o) := (Below.refl _ _).alloc (Nat.le_refl _) _
theorem bAfter {B : Nat} {a w w' : World} (h : Below B a w) (h2 : Below w.heap.size w w') (hB : B ≤ w.heap.size) : Below B a w' := h.trans (h2.mono hB)

end Go.Proofs.YtkndpkingmemoaaGreatDoor.Frm
namespace Go.Proofs.YtkndpkingmemoaaGreatDoor.Num
open Go.RowKit
set_option linter.unusedVariables false
theorem or_byte (x : Int) (c : UInt8) (hx : 0 ≤ x) (hx1 : x < 16777216) : bits .or .i64 (x * 256) (wrap64 c.toNat) = x * 256 + (c.toNat : Int) := by
  have hc := byte_lt c
  rw [IntWalk.wrap64_in (c.toNat : Int) ⟨by omega, by omega⟩]
  exact bits_join .i64 62 (by decide) (fun n h0 h1 => by rw [IntKind.wrap_i64]; omega) 8 (x * 256) _ (by omega) (by omega) (by omega) (by omega) (by omega) (by omega)
set_option maxHeartbeats 400000 in
theorem getNum_ok (s : ByteArray) (p n : Nat) (w : World) (hs : s.size ≤ maxLen) (hn1 : 1 ≤ n) (hn4 : n ≤ 4) (hp : p + n ≤ s.size) :
    Calls Tryz.prog 177 #[.string s, .int .i64 p, .int .i64 n] w fun e w' => e = .returned (.int .i64 (gn (gcut s p n) : Int)) ∧ w = w' := by
  unfold maxLen at hs
  go_enter Tryz.func177, Tryz.ntmps177
  go_wp2
  go_loop [7, 8, 25] (fun m j i => ∃ (k : Nat) (x : Int), k ≤ n ∧ i = .int .i64 k ∧ m = .int .i64 x ∧ Hid (x = (gn (gcut s p k) : Int))) (fun _ _ i => n - (intOf i).toNat)
  case atStart => exact ⟨0, 0, by omega, rfl, rfl, Lib.hid rfl⟩
  case round =>
    obtain ⟨k, x, hk, rfl, rfl, HX⟩ := hrel
    by_cases hlt : k < n
    · have hpk : p + k < s.size := by omega
      have hst := gcut_step s p k hpk
      have hx : x < 16777216 := by rw [HX.out]; exact gn_cut_lt s p k (by omega)
      have hx0 : 0 ≤ x := by rw [HX.out]; omega
      rw [← HX.out] at hst
      have HS := Lib.hid hst
      clear hst HX
      go_wp2
      go_round
      case rel => exact ⟨k + 1, _, by omega, by go_num, rfl, Lib.hid (by rw [HS.out, or_byte _ _ hx0 hx])⟩
      case measure => simp [intOf]; omega
    · go_wp2
      go_ret
      obtain rfl : k = n := by omega
      exact ⟨ret_int HX.out, rfl⟩

set_option maxHeartbeats 400000 in
theorem getNum_bad (s : ByteArray) (p n : Int) (w : World) (hs : s.size ≤ maxLen) (hb : ¬ gnOk s p n) :
    Calls Tryz.prog 177 #[.string s, .int .i64 p, .int .i64 n] w fun e w' => e = .returned (.int .i64 (-1)) ∧ w = w' := by
  unfold maxLen at hs
  unfold gnOk at hb
  by_cases h1 : n < 1
  · clear hb
    go_enter Tryz.func177, Tryz.ntmps177
    go_wp2
    go_ret
    exact ⟨rfl, rfl⟩
  by_cases h4 : 4 < n
  · clear hb
    go_enter Tryz.func177, Tryz.ntmps177
    go_wp2
    go_ret
    exact ⟨rfl, rfl⟩
  by_cases hp : p < 0
  · clear hb
    go_enter Tryz.func177, Tryz.ntmps177
    go_wp2
    go_ret
    exact ⟨rfl, rfl⟩
  · have hq : (s.size : Int) - n < p := by omega
    clear hb
    go_enter Tryz.func177, Tryz.ntmps177
    go_wp2
    go_ret
    exact ⟨rfl, rfl⟩
theorem getNum_any (s : ByteArray) (p n : Int) (w : World) (hs : s.size ≤ maxLen) :
    Calls Tryz.prog 177 #[.string s, .int .i64 p, .int .i64 n] w fun e w' => e = .returned (.int .i64 (gnVal s p n)) ∧ w = w' := by
  by_cases h : gnOk s p n
  · rw [gnVal_ok h]
    unfold gnOk at h
    obtain ⟨n, rfl⟩ := Int.eq_ofNat_of_zero_le (show 0 ≤ n by omega)
    obtain ⟨p, rfl⟩ := Int.eq_ofNat_of_zero_le h.2.2.1
    exact getNum_ok s p n w hs (by omega) (by omega) (by omega)
  · rw [gnVal_bad h]
    exact getNum_bad s p n w hs h

end Go.Proofs.YtkndpkingmemoaaGreatDoor.Num
namespace Go.Proofs.YtkndpkingmemoaaGreatDoor.Num
open Go.RowKit Go.Proofs.YtkndpkingmemoaaGreatDoor.Kit
set_option linter.unusedVariables false
theorem i64_bounds {n : Int} (h : (Lit.int .i64 n).wf = true) : -9223372036854775808 ≤ n ∧ n ≤ 9223372036854775807 := by
  simp [Lit.wf, IntKind.min, IntKind.max, IntKind.signed, IntKind.bits] at h
  omega
theorem infoByte : (Tryz.prog.info? 5).map (fun i => (i.zero, i.size, i.bytes)) = some (some (.int .u8 0), 1, 1) := by kernel_rfl

set_option maxRecDepth 100000 in
set_option maxHeartbeats 400000 in
theorem specPutNum_ok (n b : Nat) (w : World) (hn : (n : Int) ≤ 9223372036854775807) (hb1 : 1 ≤ (b : Int)) (hb4 : (b : Int) ≤ 4) :
    Calls Tryz.prog 68 #[.int .i64 n, .int .i64 b] w fun e w' => e = .returned (.string ⟨(pb b n).toArray⟩) ∧ Below w.heap.size w w' := by
  obtain ⟨i0, hi, hz0, hz1, hz2⟩ := info_parts infoByte
  go_enter Tryz.func68, Tryz.ntmps68
  go_wp2
  go_loopw [5, 6] (fun v i wr => ∃ (j : Nat) (q : Int), j ≤ b ∧ Hid (q = (b : Int) - 1 - j) ∧ i = .int .i64 q ∧ wr.ownsRow w.heap.size 5 1 v j (Lib.byteCells ((pb b n).take j)) ∧ Below w.heap.size w wr) (fun _ i _ => (intOf i + 1).toNat)
  case atStart => exact ⟨0, (b : Int) - 1, by omega, Lib.hid (by omega), rfl, World.ownsRow_lit _ _ _ (Nat.le_refl _) (by unfold maxLen; omega) rfl, (Below.refl _ _).alloc (Nat.le_refl _) _⟩
  case round =>
    obtain ⟨j, q, hj, HQ, rfl, hown, hbel⟩ := hrel
    by_cases hq : 0 ≤ q
    · have hq4 : q ≤ 3 := by have := HQ.out; omega
      go_wp2_with (at_builtin; refine append_one rfl _ _ 22 rfl 5 i0 _ 1 Tryz.underlying22 hi hz0 hz1 hz2 rfl (by decide) rfl hown rfl rfl (by omega) hbel (Nat.le_refl _) ?_; intro v' w' hown' hbel' _ _)
      go_roundw
      case rel =>
        have hQ := HQ.out
        have hjb : j < b := by omega
        refine ⟨j + 1, q - 1, by omega, Lib.hid (by omega), rfl, ?_, hbel'⟩
        rw [pb_take b n j hjb, ← byteCells_snoc, ← shr_eq n b j q hQ hjb]
        exact hown'
      case measure => simp [intOf]; omega
    · have hjb : j = b := by have := HQ.out; omega
      subst hjb
      rw [List.take_of_length_le (by rw [pb_len]; exact Nat.le_refl _)] at hown
      have hcv := convert_row (P := Tryz.prog) 22 9 5 Tryz.underlying22 Tryz.underlying5 Tryz.underlying9 hown
      go_wp2
      go_ret
      exact ⟨rfl, hbel⟩

set_option maxRecDepth 100000 in
set_option maxHeartbeats 400000 in
theorem putNum_ok (n b : Nat) (w : World) (hn : (n : Int) ≤ 9223372036854775807) (hb1 : 1 ≤ (b : Int)) (hb4 : (b : Int) ≤ 4) :
    Calls Tryz.prog 204 #[.int .i64 n, .int .i64 b] w fun e w' => e = .returned (.string ⟨(pb b n).toArray⟩) ∧ Below w.heap.size w w' := by
  obtain ⟨i0, hi, hz0, hz1, hz2⟩ := info_parts infoByte
  go_enter Tryz.func204, Tryz.ntmps204
  go_wp2_with (first | (at_make; refine wpList_make_full _ rfl _ _ 22 rfl w.heap.size 5 i0 (.int .u8 0) 1 Tryz.underlying22 hi hz0 hz1 .i64 .i64 _ _ b rfl rfl rfl rfl (by rw [hz2]; omega) (by unfold maxLen; omega) (Nat.le_refl _) ?_; intro w1 hown1 hg1) | go_in)
  have hbel1 : Below w.heap.size w w1 := (Below.refl _ _).grown hg1 (Nat.le_refl _) (fun k e => by cases e)
  go_loopw [0, 6] (fun m i wr => ∃ (j : Nat) (q x : Int), j ≤ b ∧ Hid (q = (b : Int) - 1 - j) ∧ Hid (x = ((n / 256 ^ j : Nat) : Int)) ∧ m = .int .i64 x ∧ i = .int .i64 q ∧ wr.ownsRow w.heap.size 5 1 (.slice (some ⟨w.heap.size, 0, none⟩) b b) b (prow b n j) ∧ Below w.heap.size w wr) (fun _ i _ => (intOf i + 1).toNat)
  case atStart =>
    refine ⟨0, (b : Int) - 1, n, by omega, Lib.hid (by omega), Lib.hid (by simp), rfl, rfl, ?_, hbel1⟩
    have e : (madeCells (Value.int .u8 0).cells (b * 1)).toList = prow b n 0 := by
      unfold prow
      rw [Nat.mul_one]
      show (madeCells #[Value.int .u8 0] b).toList = _
      rw [toList_madeCells_one]
      simp [pb]
    rw [← e]
    exact hown1
  case round =>
    obtain ⟨j, q, x, hj, HQ, HX, rfl, rfl, hown, hbel⟩ := hrel
    by_cases hq : 0 ≤ q
    · have hq4 : q ≤ 3 := by have := HQ.out; omega
      have hqb : q < b := by have := HQ.out; omega
      have hx0 : 0 ≤ x := by rw [HX.out]; exact nat_cast_nonneg _
      have hx1 : x ≤ 9223372036854775807 := by rw [HX.out]; exact div_le n j hn
      have hjb : j < b := by have := HQ.out; omega
      have hqn : q.toNat = b - 1 - j := by have := HQ.out; omega
      have hcell : ∃ u, wr.cell? ⟨w.heap.size, q.toNat, none⟩ = some u := by
        rw [hown.cellAt q.toNat (by omega)]
        exact ⟨_, List.getElem?_eq_getElem (by rw [prow_len b n j hj]; omega)⟩
      obtain ⟨u, hcell⟩ := hcell
      have hfr := hown.frozenAt q.toNat
      have hst := hown.stored q.toNat (.int .u8 (x % 256))
      rw [hqn, prow_set b n j hjb _ (by rw [HX.out]), ← hqn] at hst
      have HS := Lib.hid hst
      have HN := Lib.hid hqn
      clear hst hqn
      go_wp2
      go_roundw
      case rel =>
        have hQ := HQ.out
        exact ⟨j + 1, q - 1, x / 256, by omega, Lib.hid (by omega), Lib.hid (by rw [HX.out]; exact div_step n j), rfl, rfl, HS.out.1, hbel.grown HS.out.2 hbel.size (fun k e => by cases e; exact Nat.le_refl _)⟩
      case measure => simp [intOf]; omega
    · have hjb : j = b := by have := HQ.out; omega
      subst hjb
      have hcv := convert_row (P := Tryz.prog) (l := pb j n) 22 9 5 Tryz.underlying22 Tryz.underlying5 Tryz.underlying9 (by have h := hown; unfold prow at h; simpa [Lib.byteCells] using h)
      go_wp2
      go_ret
      exact ⟨rfl, hbel⟩

set_option maxRecDepth 100000 in
set_option maxHeartbeats 400000 in
theorem specPutNum_bad (n b : Int) (w : World) (hb : ¬ putOk n b) :
    Calls Tryz.prog 68 #[.int .i64 n, .int .i64 b] w fun e w' => e = .returned (.string ⟨#[]⟩) ∧ Below w.heap.size w w' := by
  unfold putOk at hb
  by_cases h0 : n < 0
  · clear hb
    go_enter Tryz.func68, Tryz.ntmps68
    go_wp2
    go_ret
    exact ⟨rfl, Below.refl _ _⟩
  by_cases h1 : b < 1
  · clear hb
    go_enter Tryz.func68, Tryz.ntmps68
    go_wp2
    go_ret
    exact ⟨rfl, Below.refl _ _⟩
  · have h4 : 4 < b := by omega
    have hd4 : decide (b ≤ 4) = false := by simp; omega
    clear hb
    go_enter Tryz.func68, Tryz.ntmps68
    go_wp2
    go_ret
    exact ⟨rfl, Below.refl _ _⟩

theorem specPutNum_any (n b : Int) (w : World) (wn : (Lit.int .i64 n).wf = true) :
    Calls Tryz.prog 68 #[.int .i64 n, .int .i64 b] w fun e w' => e = .returned (.string ⟨(putVal n b).toArray⟩) ∧ Below w.heap.size w w' := by
  have hwf := i64_bounds wn
  by_cases h : putOk n b
  · rw [putVal_ok h]
    unfold putOk at h
    obtain ⟨n, rfl⟩ := Int.eq_ofNat_of_zero_le h.1
    obtain ⟨b, rfl⟩ := Int.eq_ofNat_of_zero_le (show 0 ≤ b by omega)
    exact specPutNum_ok n b w (by omega) h.2.1 h.2.2
  · rw [putVal_bad h]
    exact specPutNum_bad n b w h

set_option maxRecDepth 100000 in
set_option maxHeartbeats 400000 in
theorem putNum_bad (n b : Int) (w : World) (hb : ¬ putOk n b) :
    Calls Tryz.prog 204 #[.int .i64 n, .int .i64 b] w fun e w' => e = .returned (.string ⟨#[]⟩) ∧ Below w.heap.size w w' := by
  unfold putOk at hb
  by_cases h0 : n < 0
  · clear hb
    go_enter Tryz.func204, Tryz.ntmps204
    go_wp2
    go_ret
    exact ⟨rfl, Below.refl _ _⟩
  by_cases h1 : b < 1
  · clear hb
    go_enter Tryz.func204, Tryz.ntmps204
    go_wp2
    go_ret
    exact ⟨rfl, Below.refl _ _⟩
  · have h4 : 4 < b := by omega
    have hd4 : decide (b ≤ 4) = false := by simp; omega
    clear hb
    go_enter Tryz.func204, Tryz.ntmps204
    go_wp2
    go_ret
    exact ⟨rfl, Below.refl _ _⟩

theorem putNum_any (n b : Int) (w : World) (wn : (Lit.int .i64 n).wf = true) :
    Calls Tryz.prog 204 #[.int .i64 n, .int .i64 b] w fun e w' => e = .returned (.string ⟨(putVal n b).toArray⟩) ∧ Below w.heap.size w w' := by
  have hwf := i64_bounds wn
  by_cases h : putOk n b
  · rw [putVal_ok h]
    unfold putOk at h
    obtain ⟨n, rfl⟩ := Int.eq_ofNat_of_zero_le h.1
    obtain ⟨b, rfl⟩ := Int.eq_ofNat_of_zero_le (show 0 ≤ b by omega)
    exact putNum_ok n b w (by omega) h.2.1 h.2.2
  · rw [putVal_bad h]
    exact putNum_bad n b w h

end Go.Proofs.YtkndpkingmemoaaGreatDoor.Num
namespace Go.Proofs.YtkndpkingmemoaaGreatDoor
open Go.RowKit
set_option linter.unusedVariables false

set_option maxHeartbeats 400000 in
theorem check_any (s : ByteArray) (w : World) (hs : s.size ≤ maxLen) :
    Calls Tryz.prog 178 #[.string s] w fun e w' => e = .returned (.int .i64 (ckVal s.data.toList)) ∧ w = w' := by
  unfold maxLen at hs
  go_enter Tryz.func178, Tryz.ntmps178
  go_wp2
  go_loop [3, 4, 8] (fun a b i => ∃ k : Nat, k ≤ s.size ∧ i = .int .i64 k ∧ a = .int .i64 ((ck (s.data.toList.take k)).1 : Int) ∧ b = .int .i64 ((ck (s.data.toList.take k)).2 : Int)) (fun _ _ i => s.size - (intOf i).toNat)
  case atStart => exact ⟨0, Nat.zero_le _, rfl, rfl, rfl⟩
  case round =>
    obtain ⟨k, hk, rfl, rfl, rfl⟩ := hrel
    obtain ⟨hb1, hb2⟩ := ck_lt' (s.data.toList.take k)
    by_cases hlt : k < s.size
    · have hst := ck_take_succ s k hlt
      have HS := Lib.hid hst
      clear hst
      have hc := byte_lt s[k]
      go_wp2
      go_round
      case rel => exact ⟨k + 1, by omega, by go_num, by rw [HS.out.1], by rw [HS.out.2]⟩
      case measure => simp [intOf]; omega
    · go_wp2
      go_ret
      obtain rfl : k = s.size := by omega
      exact ⟨ret_int (by unfold ckVal; rw [List.take_of_length_le (by simp)]), rfl⟩

set_option maxHeartbeats 400000 in
theorem specCheck_any (s : ByteArray) (w : World) (hs : s.size ≤ maxLen) :
    Calls Tryz.prog 69 #[.string s] w fun e w' => e = .returned (.int .i64 (ckVal s.data.toList)) ∧ w = w' := by
  unfold maxLen at hs
  go_enter Tryz.func69, Tryz.ntmps69
  go_wp2
  go_loop [3, 4, 5] (fun a b i => ∃ k : Nat, k ≤ s.size ∧ i = .int .i64 k ∧ a = .int .i64 ((ck (s.data.toList.take k)).1 : Int) ∧ b = .int .i64 ((ck (s.data.toList.take k)).2 : Int)) (fun _ _ i => s.size - (intOf i).toNat)
  case atStart => exact ⟨0, Nat.zero_le _, rfl, rfl, rfl⟩
  case round =>
    obtain ⟨k, hk, rfl, rfl, rfl⟩ := hrel
    obtain ⟨hb1, hb2⟩ := ck_lt' (s.data.toList.take k)
    by_cases hlt : k < s.size
    · have hst := ck_take_succ s k hlt
      have HS := Lib.hid hst
      clear hst
      have hc := byte_lt s[k]
      go_wp2
      go_round
      case rel => exact ⟨k + 1, by omega, by go_num, by rw [HS.out.1], by rw [HS.out.2]⟩
      case measure => simp [intOf]; omega
    · go_wp2
      go_ret
      obtain rfl : k = s.size := by omega
      exact ⟨ret_int (by unfold ckVal; rw [List.take_of_length_le (by simp)]), rfl⟩

end Go.Proofs.YtkndpkingmemoaaGreatDoor
namespace Go.Proofs.YtkndpkingmemoaaGreatDoor.Frm
open Go.RowKit Go.Proofs.YtkndpkingmemoaaGreatDoor.Num Go.Proofs.YtkndpkingmemoaaGreatDoor.Kit
set_option linter.unusedVariables false

/-- a writer whose box was laid at the world w1, as it is in the world w -/
structure Wr (w1 w : World) (v : Value) (l : List UInt8) : Prop where
  bel : Below w1.heap.size w1 w
  cell : w.cell? ⟨w1.heap.size, 0, none⟩ = some v
  fro : w.frozen? ⟨w1.heap.size, 0, none⟩ = false
  lt : w1.heap.size < w.heap.size
  own : w.ownsRow (w1.heap.size + 1) 5 1 v l.length (Lib.byteCells l)
theorem Wr.new (w1 : World) : Wr w1 (w1.alloc (.cells #[.slice none 0 0] 227)) (.slice none 0 0) [] :=
  ⟨bOne _ _, cell_of_row _ _ 0 _ 227 (0, 0) (heap_alloc_new w1 _), by simp [go_sem], by simp, World.ownsRow_nil _ _ _ _⟩
theorem Wr.below {w1 w w' : World} {v : Value} {l : List UInt8} (h : Wr w1 w v l) (hb : Below w.heap.size w w') : Wr w1 w' v l :=
  ⟨bAfter h.bel hb (Nat.le_of_lt h.lt), (hb.cell (p := ⟨w1.heap.size, 0, none⟩) h.lt).trans h.cell, (World.frozen?_of_block (hb.block _ h.lt)).trans h.fro, Nat.lt_of_lt_of_le h.lt hb.size, World.ownsRow.kept h.own (row := none) ⟨hb.os, hb.tape, hb.output, hb.size, fun k hk _ => hb.block k hk⟩ (by cases h0 : v.ownBlock with | none => exact .inl rfl | some k => exact .inr (by simp))⟩
theorem cells_cat (l : List UInt8) (s : ByteArray) : Lib.byteCells l ++ Lib.strCells s = Lib.byteCells (l ++ s.data.toList) := by simp [Lib.byteCells, Lib.strCells]
theorem Wr.grown {w1 w w' : World} {v v' : Value} {l : List UInt8} {s : ByteArray} (h : Wr w1 w v l) (ho : w'.ownsRow (w1.heap.size + 1) 5 1 v' (l.length + s.size) (Lib.byteCells l ++ Lib.strCells s)) (hg : w.grownBy w' v.ownBlock) :
    w'.cell? ⟨w1.heap.size, 0, none⟩ = some v ∧ w'.frozen? ⟨w1.heap.size, 0, none⟩ = false ∧ Wr w1 (w'.setCell ⟨w1.heap.size, 0, none⟩ v') v' (l ++ s.data.toList) := by
  have hne : some w1.heap.size ≠ v.ownBlock := by
    intro e
    have := (World.ownsRow.lt h.own _ e.symm).1
    omega
  have hbk := hg.block _ h.lt hne
  have hc : w'.cell? ⟨w1.heap.size, 0, none⟩ = some v := (World.cell?_of_block hbk).trans h.cell
  have hf : w'.frozen? ⟨w1.heap.size, 0, none⟩ = false := (World.frozen?_of_block hbk).trans h.fro
  have hlt := Nat.lt_of_lt_of_le h.lt hg.size
  refine ⟨hc, hf, ⟨(h.bel.grown hg (Nat.le_of_lt h.lt) (fun k e => by have := (World.ownsRow.lt h.own _ e).1; omega)).setCell (Nat.le_refl _) _, ?_, ?_, by simpa using hlt, ?_⟩⟩
  · exact World.cell?_setCell_same _ _ _ hc
  · simpa [go_sem] using hf
  · rw [List.length_append, show s.data.toList.length = s.size by rw [bytes_len], ← cells_cat]
    exact ownsRow_setCell_below ho (by simp) _
theorem row_shape {w : World} {B : Nat} {e : TypeId} {v : Value} {n : Nat} {xs : List Value} (h : w.ownsRow B e 1 v n xs) : ∃ a c, v = .slice a n c := by
  rcases h.2 with ⟨rfl, rfl⟩ | ⟨g, cap, cur, rfl, _⟩
  · exact ⟨_, _, rfl⟩
  · exact ⟨_, _, rfl⟩
/-- what else lies (no row of bytes, and not the writer's box) stays -/
def Stay (w1 w w' : World) : Prop := ∀ (b : Nat) (cs : Array Value) (ty : TypeId) (fz : Nat × Nat), w.heap[b]? = some (.cells cs ty fz) → ty ≠ 5 → b ≠ w1.heap.size → w'.heap[b]? = some (.cells cs ty fz)
theorem Stay.trans {w1 w w' w'' : World} (h : Stay w1 w w') (h2 : Stay w1 w' w'') : Stay w1 w w'' := fun b cs ty fz hb ht hn => h2 b cs ty fz (h b cs ty fz hb ht hn) ht hn
theorem at_lt {w : World} {b : Nat} {o : Obj} (h : w.heap[b]? = some o) : b < w.heap.size := (Array.getElem?_eq_some_iff.1 h).1
theorem Stay.of_below {w1 w w' : World} (h : Below w.heap.size w w') : Stay w1 w w' := fun b _ _ _ hb _ _ => (h.block b (at_lt hb)).trans hb
theorem Stay.of_grown {w1 w w' : World} {v v' : Value} {l : List UInt8} (h : Wr w1 w v l) (hg : w.grownBy w' v.ownBlock) : Stay w1 w (w'.setCell ⟨w1.heap.size, 0, none⟩ v') := fun b cs ty fz hb ht hn => by
  have hne : some b ≠ v.ownBlock := by
    intro e
    rcases h.own.2 with ⟨rfl, _⟩ | ⟨g, cap, cur, rfl, _, hgb, _⟩
    · simp [Value.ownBlock] at e
    · simp [Value.ownBlock] at e
      subst e
      rw [hgb] at hb
      simp only [Option.some.injEq, Obj.cells.injEq] at hb
      exact ht hb.2.1.symm
  rw [heap_setCell_other w' _ b _ (fun e => hn (by simpa using e)), hg.block b (at_lt hb) hne]
  exact hb
theorem B6.at {w : World} {a : Nat} {k d e s i : Int} {b : ByteArray} {ty : TypeId} {fz : Nat × Nat} (h : w.heap[a]? = some (.cells #[.int .i64 k, .int .i64 d, .int .i64 e, .int .i64 s, .int .i64 i, .string b] ty fz)) : B6 w a k d e s i b :=
  ⟨cell_of_row _ _ 0 _ ty fz h, cell_of_row _ _ 1 _ ty fz h, cell_of_row _ _ 2 _ ty fz h, cell_of_row _ _ 3 _ ty fz h, cell_of_row _ _ 4 _ ty fz h, cell_of_row _ _ 5 _ ty fz h, at_lt h⟩
theorem infoU8 : (Tryz.prog.info? 5).map (fun i => (i.zero, i.size, i.bytes)) = some (some (.int .u8 0), 1, 1) := by kernel_rfl

set_option maxRecDepth 100000 in
theorem text_any (w1 w : World) (v : Value) (l : List UInt8) (s : ByteArray) (h : Wr w1 w v l) (hn : l.length + s.size ≤ 1000000) :
    Calls Tryz.prog 195 #[.pointer (some ⟨w1.heap.size, 0, none⟩), .string s] w fun e w' => e = .returned (.tuple #[]) ∧ (∃ v', Wr w1 w' v' (l ++ s.data.toList)) ∧ Stay w1 w w' := by
  obtain ⟨i0, hi, hz0, hz1, hz2⟩ := info_parts infoU8
  have c0 := h.cell
  have hown := h.own
  have hsz := h.lt
  have HW := Lib.hid h
  clear h
  go_enter Tryz.func195, Tryz.ntmps195
  go_wp2_with (at_builtin; refine Lib.wpList_append_own_string _ rfl _ _ 22 9 rfl (w1.heap.size + 1) 5 i0 Tryz.underlying22 Tryz.underlying9 hi hz0 hz1 hz2 v l.length _ rfl hown s rfl (by unfold maxLen; omega) (by omega) (by omega) ?_; intro v' w' hown' hg' _; obtain ⟨a', c', rfl⟩ := row_shape hown'; obtain ⟨d0, f0, HN⟩ := HW.out.grown hown' hg'; have HST := Lib.hid (Stay.of_grown (v' := .slice a' (l.length + s.size) c') HW.out hg'))
  go_end0
  exact ⟨rfl, ⟨_, HN⟩, HST.out⟩

set_option maxRecDepth 100000 in
theorem number_any (w1 w : World) (v : Value) (l : List UInt8) (n b : Int) (h : Wr w1 w v l) (hn : l.length ≤ 100000) (wn : (Lit.int .i64 n).wf = true) :
    Calls Tryz.prog 193 #[.pointer (some ⟨w1.heap.size, 0, none⟩), .int .i64 n, .int .i64 b] w fun e w' => e = .returned (.tuple #[]) ∧ (∃ v', Wr w1 w' v' (l ++ putVal n b)) ∧ Stay w1 w w' := by
  have HW := Lib.hid h
  have HN := Lib.hid wn
  have hlen : (putVal n b).length ≤ 4 := by
    unfold putVal
    split
    · rename_i h; unfold putOk at h; rw [pb_len]; omega
    · simp
  clear h wn
  go_enter Tryz.func193, Tryz.ntmps193
  go_wp2_with fail
  refine (putNum_any n b _ HN.out).mono ?_
  rintro e w2 ⟨rfl, hb2⟩
  have HW2 := Lib.hid (HW.out.below hb2)
  have HS2 := Lib.hid (Stay.of_below (w1 := w1) hb2)
  go_wp2_with fail
  refine (text_any w1 _ v l ⟨(putVal n b).toArray⟩ HW2.out (by show _ + (putVal n b).toArray.size ≤ _; simp; omega)).mono ?_
  rintro e w3 ⟨rfl, ⟨v3, h3⟩, hs3⟩
  go_wp2_with fail
  go_end0
  exact ⟨rfl, ⟨v3, by simpa using h3⟩, HS2.out.trans hs3⟩

theorem putVal_le (n b : Int) : (putVal n b).length ≤ 4 := by
  unfold putVal
  split
  · rename_i h; unfold putOk at h; rw [pb_len]; omega
  · simp
/-- what four numbers leave -/
def fourB (d e s i : Int) : List UInt8 := putVal d 1 ++ putVal e 2 ++ putVal s 2 ++ putVal i 2
set_option maxRecDepth 100000 in
theorem tell_any (w1 w : World) (v : Value) (l : List UInt8) (k d e s i : Int) (b : ByteArray) (h : Wr w1 w v l) (hn : l.length ≤ 1000) (wd : (Lit.int .i64 d).wf = true) (we : (Lit.int .i64 e).wf = true) (ws : (Lit.int .i64 s).wf = true) (wi : (Lit.int .i64 i).wf = true) :
    Calls Tryz.prog 194 #[.agg #[.int .i64 k, .int .i64 d, .int .i64 e, .int .i64 s, .int .i64 i, .string b], .func (.func 193) #[.pointer (some ⟨w1.heap.size, 0, none⟩)] #[]] w fun en w' => en = .returned (.tuple #[]) ∧ (∃ v', Wr w1 w' v' (l ++ fourB d e s i)) ∧ Stay w1 w w' := by
  have HB0 := Lib.hid (show (w.alloc (.cells #[.int .i64 k, .int .i64 d, .int .i64 e, .int .i64 s, .int .i64 i, .string b] 51)).heap[w.heap.size]? = some (.cells #[.int .i64 k, .int .i64 d, .int .i64 e, .int .i64 s, .int .i64 i, .string b] 51 (0, 0)) from heap_alloc_new w _)
  have HW := Lib.hid (h.below (bOne w (.cells #[.int .i64 k, .int .i64 d, .int .i64 e, .int .i64 s, .int .i64 i, .string b] 51)))
  have HS0 := Lib.hid (Stay.of_below (w1 := w1) (bOne w (.cells #[.int .i64 k, .int .i64 d, .int .i64 e, .int .i64 s, .int .i64 i, .string b] 51)))
  have HNE := Lib.hid (show w.heap.size ≠ w1.heap.size by have := h.lt; omega)
  have HWF := Lib.hid (And.intro wd (And.intro we (And.intro ws wi)))
  have hl1 : (putVal d 1).length ≤ 4 := putVal_le d 1
  have hl2 : (putVal e 2).length ≤ 4 := putVal_le e 2
  have hl3 : (putVal s 2).length ≤ 4 := putVal_le s 2
  clear h wd we ws wi
  go_enter Tryz.func194, Tryz.ntmps194
  go_wp2_with fail
  refine (number_any w1 _ v l d 1 HW.out (by omega) HWF.out.1).mono ?_
  rintro en w2 ⟨rfl, ⟨v2, h2⟩, s2⟩
  have HH2 := Lib.hid (s2 _ _ _ _ HB0.out (by decide) HNE.out)
  have HS2 := Lib.hid (HS0.out.trans s2)
  have HW2 := Lib.hid h2
  have HC2 := Lib.hid (B6.at HH2.out)
  clear h2 s2 HB0 HW HS0
  obtain ⟨c0, c1, c2, c3, c4, c5, hlt⟩ := HC2.out
  go_wp2_with fail
  refine (number_any w1 _ v2 _ e 2 HW2.out (by simp only [List.length_append]; omega) HWF.out.2.1).mono ?_
  rintro en w3 ⟨rfl, ⟨v3, h3⟩, s3⟩
  have HH3 := Lib.hid (s3 _ _ _ _ HH2.out (by decide) HNE.out)
  have HS3 := Lib.hid (HS2.out.trans s3)
  have HW3 := Lib.hid h3
  have HC3 := Lib.hid (B6.at HH3.out)
  clear h3 s3 HH2 HW2 HS2 HC2 c0 c1 c2 c3 c4 c5 hlt
  obtain ⟨c0, c1, c2, c3, c4, c5, hlt⟩ := HC3.out
  go_wp2_with fail
  refine (number_any w1 _ v3 _ s 2 HW3.out (by simp only [List.length_append]; omega) HWF.out.2.2.1).mono ?_
  rintro en w4 ⟨rfl, ⟨v4, h4⟩, s4⟩
  have HH4 := Lib.hid (s4 _ _ _ _ HH3.out (by decide) HNE.out)
  have HS4 := Lib.hid (HS3.out.trans s4)
  have HW4 := Lib.hid h4
  have HC4 := Lib.hid (B6.at HH4.out)
  clear h4 s4 HH3 HW3 HS3 HC3 c0 c1 c2 c3 c4 c5 hlt
  obtain ⟨c0, c1, c2, c3, c4, c5, hlt⟩ := HC4.out
  go_wp2_with fail
  refine (number_any w1 _ v4 _ i 2 HW4.out (by simp only [List.length_append]; omega) HWF.out.2.2.2).mono ?_
  rintro en w5 ⟨rfl, ⟨v5, h5⟩, s5⟩
  have HS5 := Lib.hid (HS4.out.trans s5)
  have HW5 := Lib.hid h5
  clear h5 s5 HH4 HW4 HS4 HC4 c0 c1 c2 c3 c4 c5 hlt
  go_wp2_with fail
  go_end0
  exact ⟨rfl, ⟨v5, by have := HW5.out; simpa [fourB, List.append_assoc] using this⟩, HS5.out⟩
end Go.Proofs.YtkndpkingmemoaaGreatDoor.Frm
namespace Go.Proofs.YtkndpkingmemoaaGreatDoor.Frm
open Go.RowKit Go.Proofs.YtkndpkingmemoaaGreatDoor.Num
set_option linter.unusedVariables false

theorem wf_of {n : Int} (h0 : -9223372036854775808 ≤ n) (h1 : n ≤ 9223372036854775807) : (Lit.int .i64 n).wf = true := by
  simp [Lit.wf, IntKind.min, IntKind.max, IntKind.signed, IntKind.bits]
  omega
theorem str_lists (b : ByteArray) : b = ⟨b.data.toList.toArray⟩ := by simp
theorem cat_lists (x y : List UInt8) (h : x.length + y.length ≤ 9223372036854775807) (w : World) : (Op.stringOp .add ⟨x.toArray⟩ ⟨y.toArray⟩).run Tryz.prog w = .ok (.string ⟨(x ++ y).toArray⟩) w := by
  rw [run_string_add_sum w _ _ (by show x.toArray.size + y.toArray.size ≤ _; simpa using h)]
  congr 2
theorem low_drew {V W : World} (h : Below W.heap.size W V) : Below W.heap.size W V.drew := ⟨h.os, h.tape, h.output, h.size, h.block⟩
theorem low_alloc {W w : World} (h : Below W.heap.size W w) (o : Obj) : Below W.heap.size W (w.alloc o) := h.alloc h.size _
theorem low_after {W w w1 : World} (h : Below W.heap.size W w) (h2 : Below w.heap.size w w1) : Below W.heap.size W w1 := bAfter h h2 h.size
/-- what a region that loads a frame's box holds -/
def Six (W : World) (a : Nat) (k d e s i : Int) (b : ByteArray) (w' : World) : Prop :=
  w'.cell? ⟨a, 0, none⟩ = some (.int .i64 k) ∧ w'.cell? ⟨a, 1, none⟩ = some (.int .i64 d) ∧ w'.cell? ⟨a, 2, none⟩ = some (.int .i64 e) ∧ w'.cell? ⟨a, 3, none⟩ = some (.int .i64 s) ∧ w'.cell? ⟨a, 4, none⟩ = some (.int .i64 i) ∧ w'.cell? ⟨a, 5, none⟩ = some (.string b) ∧ Below W.heap.size W w'
theorem six_of {W : World} {a : Nat} {k d e s i : Int} {b : ByteArray} (h : B6 W a k d e s i b) (w' : World) (hb : Below W.heap.size W w') : Six W a k d e s i b w' :=
  let g := h.below hb
  ⟨g.c0, g.c1, g.c2, g.c3, g.c4, g.c5, hb⟩

set_option maxRecDepth 100000 in
set_option maxHeartbeats 2000000 in
theorem specPut_yes (k d e s i : Int) (b : ByteArray) (w : World) (hb : b.size ≤ maxLen) (h : FOk k d e s i b.size) :
    Calls Tryz.prog 24 #[.agg #[.int .i64 k, .int .i64 d, .int .i64 e, .int .i64 s, .int .i64 i, .string b]] w fun en w' => en = .returned (.string ⟨(frBytes k d e s i b.data.toList).toArray⟩) ∧ Below w.heap.size w w' := by
  obtain ⟨h1, h2, h3, h4, h5, h6, h7, h8, h9, h10, h11⟩ := h.bounds
  have hlen := bytes_len b
  have HB0 := Lib.hid (B6.new w k d e s i b 51)
  have l1 : (putVal k 1).length = 1 := putVal_len h1 (by omega) (by omega)
  have l2 : (putVal d 1).length = 1 := putVal_len h3 (by omega) (by omega)
  have l3 : (putVal e 2).length = 2 := putVal_len h5 (by omega) (by omega)
  have l4 : (putVal s 2).length = 2 := putVal_len h7 (by omega) (by omega)
  have l5 : (putVal i 2).length = 2 := putVal_len h9 (by omega) (by omega)
  have l6 : (putVal (b.size : Int) 1).length = 1 := putVal_len (by omega) (by omega) (by omega)
  obtain ⟨q1, hq1⟩ : ∃ q, q = putVal k 1 ++ putVal d 1 := ⟨_, rfl⟩
  obtain ⟨q2, hq2⟩ : ∃ q, q = q1 ++ putVal e 2 := ⟨_, rfl⟩
  obtain ⟨q3, hq3⟩ : ∃ q, q = q2 ++ putVal s 2 := ⟨_, rfl⟩
  obtain ⟨q4, hq4⟩ : ∃ q, q = q3 ++ putVal i 2 := ⟨_, rfl⟩
  obtain ⟨q5, hq5⟩ : ∃ q, q = q4 ++ putVal (b.size : Int) 1 := ⟨_, rfl⟩
  have m1 : q1.length = 2 := by rw [hq1, List.length_append]; omega
  have m2 : q2.length = 4 := by rw [hq2, List.length_append]; omega
  have m3 : q3.length = 6 := by rw [hq3, List.length_append]; omega
  have m4 : q4.length = 8 := by rw [hq4, List.length_append]; omega
  have m5 : q5.length = 9 := by rw [hq5, List.length_append]; omega
  have ha1 := cat_lists (putVal k 1) (putVal d 1) (by omega)
  have ha2 := cat_lists q1 (putVal e 2) (by omega)
  have ha3 := cat_lists q2 (putVal s 2) (by omega)
  have ha4 := cat_lists q3 (putVal i 2) (by omega)
  have ha5 := cat_lists q4 (putVal (b.size : Int) 1) (by omega)
  have ha6 := cat_lists q5 b.data.toList (by omega)
  rw [← str_lists b] at ha6
  have hhd : q5 ++ b.data.toList = head k d e s i b.data.toList := by rw [head, hlen, hq5, hq4, hq3, hq2, hq1]
  rw [← hq1] at ha1
  rw [← hq2] at ha2
  rw [← hq3] at ha3
  rw [← hq4] at ha4
  rw [← hq5] at ha5
  rw [hhd] at ha6
  have hhl := head_len (b := b.data.toList) (by rw [hlen]; exact h)
  obtain ⟨hd, hhd2⟩ : ∃ hd, hd = head k d e s i b.data.toList := ⟨_, rfl⟩
  have HFR := Lib.hid (show frBytes k d e s i b.data.toList = hd ++ putVal (ckVal hd) 2 by rw [hhd2, frBytes])
  rw [← hhd2] at ha6 hhl
  have hck := ckVal_bd hd
  have l7 : (putVal (ckVal hd) 2).length = 2 := putVal_len hck.1 (by omega) (by omega)
  have ha7 := cat_lists hd (putVal (ckVal hd) 2) (by omega)
  rw [← HFR.out] at ha7
  have hdlen : (⟨hd.toArray⟩ : ByteArray).size ≤ maxLen := by show hd.toArray.size ≤ _; simp [maxLen]; omega
  have HCK := Lib.hid (fun w' => specCheck_any ⟨hd.toArray⟩ w' hdlen)
  have hbd : (b.size : Int) ≤ 40 := by omega
  have HOK := Lib.hid h
  clear hhd hhd2 hq1 hq2 hq3 hq4 hq5 m1 m2 m3 m4 m5 l1 l2 l3 l4 l5 l6 l7 h hdlen
  go_enter Tryz.func24, Tryz.ntmps24
  go_wp2_with fail
  refine (specOk_any k d e s i b _ hb).mono ?_
  rintro en w1 ⟨rfl, hb1⟩
  rw [fokB_yes HOK.out]
  have HL1 := Lib.hid (bAfter (bOne w _) hb1 (by simp))
  have HB1 := Lib.hid (HB0.out.below hb1)
  clear hb1 HB0
  obtain ⟨c0, c1, c2, c3, c4, c5, hlt⟩ := HB1.out
  go_wp2_with fail
  have HKS := Lib.hid (six_of HB1.out)
  have HD := Lib.hid (show Below w1.heap.size w1 w1.drew from low_drew (Below.refl _ _))
  go_region_held3 (fun w' => w'.cell? ⟨w.heap.size, 0, none⟩ = some (.int .i64 k) ∧ w'.cell? ⟨w.heap.size, 1, none⟩ = some (.int .i64 d) ∧ w'.cell? ⟨w.heap.size, 2, none⟩ = some (.int .i64 e) ∧ w'.cell? ⟨w.heap.size, 3, none⟩ = some (.int .i64 s) ∧ w'.cell? ⟨w.heap.size, 4, none⟩ = some (.int .i64 i) ∧ w'.cell? ⟨w.heap.size, 5, none⟩ = some (.string b) ∧ Below w1.heap.size w1 w')
    (first
      | exact HKS.out _ HD.out
      | exact HKS.out _ HL.out)
    (first
      | (go_at_call 68; (with_reducible refine (specPutNum_any k 1 _ (wf_of (by omega) (by omega))).mono ?_); rintro en w' ⟨rfl, hbx⟩; have HL := Lib.hid (low_after ((‹_ ∧ _ ∧ _ ∧ _ ∧ _ ∧ _ ∧ Below w1.heap.size w1 _›).2.2.2.2.2.2) hbx))
      | (go_at_call 68; (with_reducible refine (specPutNum_any d 1 _ (wf_of (by omega) (by omega))).mono ?_); rintro en w' ⟨rfl, hbx⟩; have HL := Lib.hid (low_after ((‹_ ∧ _ ∧ _ ∧ _ ∧ _ ∧ _ ∧ Below w1.heap.size w1 _›).2.2.2.2.2.2) hbx))
      | (go_at_call 68; (with_reducible refine (specPutNum_any e 2 _ (wf_of (by omega) (by omega))).mono ?_); rintro en w' ⟨rfl, hbx⟩; have HL := Lib.hid (low_after ((‹_ ∧ _ ∧ _ ∧ _ ∧ _ ∧ _ ∧ Below w1.heap.size w1 _›).2.2.2.2.2.2) hbx))
      | (go_at_call 68; (with_reducible refine (specPutNum_any s 2 _ (wf_of (by omega) (by omega))).mono ?_); rintro en w' ⟨rfl, hbx⟩; have HL := Lib.hid (low_after ((‹_ ∧ _ ∧ _ ∧ _ ∧ _ ∧ _ ∧ Below w1.heap.size w1 _›).2.2.2.2.2.2) hbx))
      | (go_at_call 68; (with_reducible refine (specPutNum_any i 2 _ (wf_of (by omega) (by omega))).mono ?_); rintro en w' ⟨rfl, hbx⟩; have HL := Lib.hid (low_after ((‹_ ∧ _ ∧ _ ∧ _ ∧ _ ∧ _ ∧ Below w1.heap.size w1 _›).2.2.2.2.2.2) hbx))
      | (go_at_call 68; (with_reducible refine (specPutNum_any (b.size : Int) 1 _ (wf_of (by omega) (by omega))).mono ?_); rintro en w' ⟨rfl, hbx⟩; have HL := Lib.hid (low_after ((‹_ ∧ _ ∧ _ ∧ _ ∧ _ ∧ _ ∧ Below w1.heap.size w1 _›).2.2.2.2.2.2) hbx)))
  have HL8 := Lib.hid (bAfter HL1.out HL.out HL1.out.size)
  clear HKS HD HB1 HL1 HL c0 c1 c2 c3 c4 c5 hlt
  go_wp2_with fail
  refine (HCK.out _).mono ?_
  rintro en w9 ⟨rfl, rfl⟩
  go_wp2_with fail
  refine (specPutNum_any (ckVal hd) 2 _ (wf_of (by omega) (by omega))).mono ?_
  rintro en w10 ⟨rfl, hb10⟩
  go_wp2_with fail
  go_ret
  exact ⟨rfl, bAfter HL8.out hb10 HL8.out.size⟩

theorem specPut_any (k d e s i : Int) (b : ByteArray) (w : World) (hb : b.size ≤ maxLen) :
    Calls Tryz.prog 24 #[.agg #[.int .i64 k, .int .i64 d, .int .i64 e, .int .i64 s, .int .i64 i, .string b]] w fun en w' => en = .returned (.string ⟨(putF k d e s i b.data.toList).toArray⟩) ∧ Below w.heap.size w w' := by
  have hlen := bytes_len b
  by_cases h : FOk k d e s i b.size
  · rw [putF_yes (by rw [hlen]; exact h)]
    exact specPut_yes k d e s i b w hb h
  · rw [putF_no (by rw [hlen]; exact h)]
    clear hlen
    go_enter Tryz.func24, Tryz.ntmps24
    go_wp2_with fail
    refine (specOk_any k d e s i b _ hb).mono ?_
    rintro en w1 ⟨rfl, hb1⟩
    rw [fokB_no h]
    go_wp2_with fail
    go_ret
    exact ⟨rfl, bAfter (bOne w _) hb1 (by simp)⟩
end Go.Proofs.YtkndpkingmemoaaGreatDoor.Frm
namespace Go.Proofs.YtkndpkingmemoaaGreatDoor.Frm
open Go.RowKit Go.Proofs.YtkndpkingmemoaaGreatDoor.Num Go.Proofs.YtkndpkingmemoaaGreatDoor.Kit
set_option linter.unusedVariables false

set_option maxRecDepth 100000 in
set_option maxHeartbeats 1000000 in
theorem implPut_yes (k d e s i : Int) (b : ByteArray) (w : World) (hb : b.size ≤ maxLen) (h : FOk k d e s i b.size) :
    Calls Tryz.prog 180 #[.agg #[.int .i64 k, .int .i64 d, .int .i64 e, .int .i64 s, .int .i64 i, .string b]] w fun en w' => en = .returned (.string ⟨(frBytes k d e s i b.data.toList).toArray⟩) ∧ Below w.heap.size w w' := by
  obtain ⟨h1, h2, h3, h4, h5, h6, h7, h8, h9, h10, h11⟩ := h.bounds
  have hlen := bytes_len b
  have HOK := Lib.hid h
  have HB0 := Lib.hid (show (w.alloc (.cells #[.int .i64 k, .int .i64 d, .int .i64 e, .int .i64 s, .int .i64 i, .string b] 51)).heap[w.heap.size]? = some (.cells #[.int .i64 k, .int .i64 d, .int .i64 e, .int .i64 s, .int .i64 i, .string b] 51 (0, 0)) from heap_alloc_new w _)
  have hl4 : (fourB d e s i).length = 7 := by
    unfold fourB
    simp only [List.length_append]
    rw [putVal_len h3 (by omega) (by omega), putVal_len h5 (by omega) (by omega), putVal_len h7 (by omega) (by omega), putVal_len h9 (by omega) (by omega)]
    rfl
  have hl1 := putVal_le k 1
  have hl6 := putVal_le (b.size : Int) 1
  have hbd : (b.size : Int) ≤ 40 := by omega
  obtain ⟨hd, hhd⟩ : ∃ hd, hd = head k d e s i b.data.toList := ⟨_, rfl⟩
  have HHD := Lib.hid (show ([] ++ putVal k 1) ++ fourB d e s i ++ putVal (b.size : Int) 1 ++ b.data.toList = hd by rw [hhd, head, fourB, hlen]; simp)
  have HFR := Lib.hid (show hd ++ putVal (ckVal hd) 2 = frBytes k d e s i b.data.toList by rw [hhd, frBytes])
  have hhl := head_len (b := b.data.toList) (by rw [hlen]; exact h)
  rw [← hhd] at hhl
  have hck := ckVal_bd hd
  have hdlen : (⟨hd.toArray⟩ : ByteArray).size ≤ maxLen := by show hd.toArray.size ≤ _; simp [maxLen]; omega
  have HCK := Lib.hid (fun w' => check_any ⟨hd.toArray⟩ w' hdlen)
  clear h hhd hdlen
  go_enter Tryz.func180, Tryz.ntmps180
  go_wp2_with fail
  refine (implOk_any k d e s i b _ hb).mono ?_
  rintro en w1 ⟨rfl, hb1⟩
  rw [fokB_yes HOK.out]
  have HL1 := Lib.hid (bAfter (bOne w _) hb1 (by simp))
  have HH1 := Lib.hid ((hb1.block _ (by simp)).trans HB0.out)
  have HNE := Lib.hid (show w.heap.size ≠ w1.heap.size by have := hb1.size; simp at this; omega)
  clear hb1 HB0
  have HW1 := Lib.hid (Wr.new w1)
  have HH1a := Lib.hid (((bOne w1 (.cells #[.slice none 0 0] 227)).block _ (at_lt HH1.out)).trans HH1.out)
  have HC1 := Lib.hid (B6.at HH1a.out)
  obtain ⟨c0, c1, c2, c3, c4, c5, hlt⟩ := HC1.out
  go_wp2_with fail
  refine (number_any w1 _ _ [] k 1 HW1.out (by simp) (wf_of (by omega) (by omega))).mono ?_
  rintro en w2 ⟨rfl, ⟨v2, h2⟩, s2⟩
  have HH2 := Lib.hid (s2 _ _ _ _ HH1a.out (by decide) HNE.out)
  have HW2 := Lib.hid h2
  have HC2 := Lib.hid (B6.at HH2.out)
  clear h2 s2 HW1 HH1a HC1 c0 c1 c2 c3 c4 c5 hlt
  obtain ⟨c0, c1, c2, c3, c4, c5, hlt⟩ := HC2.out
  have hmf : ∀ (fn : Fn) (first cap : Array Value) (w : World), (Instr.makeFunc fn first cap).run Tryz.prog w = .ok (.func fn first cap) w := fun _ _ _ _ => rfl
  go_wp2_with fail
  refine (tell_any w1 _ v2 _ k d e s i b HW2.out (by simp; omega) (wf_of (by omega) (by omega)) (wf_of (by omega) (by omega)) (wf_of (by omega) (by omega)) (wf_of (by omega) (by omega))).mono ?_
  rintro en w3 ⟨rfl, ⟨v3, h3'⟩, s3⟩
  have HH3 := Lib.hid (s3 _ _ _ _ HH2.out (by decide) HNE.out)
  have HW3 := Lib.hid h3'
  have HC3 := Lib.hid (B6.at HH3.out)
  clear h3' s3 HH2 HW2 HC2 c0 c1 c2 c3 c4 c5 hlt hmf
  obtain ⟨c0, c1, c2, c3, c4, c5, hlt⟩ := HC3.out
  go_wp2_with fail
  refine (number_any w1 _ v3 _ (b.size : Int) 1 HW3.out (by simp only [List.length_append, List.length_nil]; omega) (wf_of (by omega) (by omega))).mono ?_
  rintro en w4 ⟨rfl, ⟨v4, h4'⟩, s4⟩
  have HH4 := Lib.hid (s4 _ _ _ _ HH3.out (by decide) HNE.out)
  have HW4 := Lib.hid h4'
  have HC4 := Lib.hid (B6.at HH4.out)
  clear h4' s4 HH3 HW3 HC3 c0 c1 c2 c3 c4 c5 hlt
  obtain ⟨c0, c1, c2, c3, c4, c5, hlt⟩ := HC4.out
  go_wp2_with fail
  refine (text_any w1 _ v4 _ b HW4.out (by simp only [List.length_append, List.length_nil]; omega)).mono ?_
  rintro en w5 ⟨rfl, ⟨v5, h5'⟩, s5⟩
  rw [HHD.out] at h5'
  have HW5 := Lib.hid h5'
  clear h5' s5 HH4 HW4 HC4 c0 c1 c2 c3 c4 c5 hlt
  have hcv := convert_row (P := Tryz.prog) (l := hd) 22 9 5 Tryz.underlying22 Tryz.underlying5 Tryz.underlying9 HW5.out.own
  have hcl := HW5.out.cell
  go_wp2_with fail
  refine (HCK.out _).mono ?_
  rintro en w6 ⟨rfl, rfl⟩
  clear hcv hcl
  go_wp2_with fail
  refine (number_any w1 _ v5 _ (ckVal hd) 2 HW5.out (by omega) (wf_of (by omega) (by omega))).mono ?_
  rintro en w7 ⟨rfl, ⟨v7, h7'⟩, s7⟩
  rw [HFR.out] at h7'
  have HW7 := Lib.hid h7'
  clear h7' s7 HW5
  have hcv := convert_row (P := Tryz.prog) (l := frBytes k d e s i b.data.toList) 22 9 5 Tryz.underlying22 Tryz.underlying5 Tryz.underlying9 HW7.out.own
  have hcl := HW7.out.cell
  go_wp2_with fail
  go_ret
  exact ⟨rfl, bAfter HL1.out HW7.out.bel HL1.out.size⟩

theorem implPut_any (k d e s i : Int) (b : ByteArray) (w : World) (hb : b.size ≤ maxLen) :
    Calls Tryz.prog 180 #[.agg #[.int .i64 k, .int .i64 d, .int .i64 e, .int .i64 s, .int .i64 i, .string b]] w fun en w' => en = .returned (.string ⟨(putF k d e s i b.data.toList).toArray⟩) ∧ Below w.heap.size w w' := by
  have hlen := bytes_len b
  by_cases h : FOk k d e s i b.size
  · rw [putF_yes (by rw [hlen]; exact h)]
    exact implPut_yes k d e s i b w hb h
  · rw [putF_no (by rw [hlen]; exact h)]
    clear hlen
    go_enter Tryz.func180, Tryz.ntmps180
    go_wp2_with fail
    refine (implOk_any k d e s i b _ hb).mono ?_
    rintro en w1 ⟨rfl, hb1⟩
    rw [fokB_no h]
    go_wp2_with fail
    go_ret
    exact ⟨rfl, bAfter (bOne w _) hb1 (by simp)⟩

end Go.Proofs.YtkndpkingmemoaaGreatDoor.Frm
namespace Go.Proofs.YtkndpkingmemoaaGreatDoor.Frm
open Go.RowKit Go.Proofs.YtkndpkingmemoaaGreatDoor.Num
set_option linter.unusedVariables false

/-- the frame that a text's bytes would be -/
def gK (s : ByteArray) : Int := gnVal s 0 1
def gD (s : ByteArray) : Int := gnVal s 1 1
def gE (s : ByteArray) : Int := gnVal s 2 2
def gS (s : ByteArray) : Int := gnVal s 4 2
def gI (s : ByteArray) : Int := gnVal s 6 2
def gB (s : ByteArray) (m : Nat) : ByteArray := s.extract 9 m
/-- the bytes of the frame that a text of m bytes and a sum would be -/
def gP (s : ByteArray) (m : Nat) : List UInt8 := putF (gK s) (gD s) (gE s) (gS s) (gI s) (gB s m).data.toList
/-- the sum is the bytes' own -/
def sumOk (s : ByteArray) (m : Nat) : Prop := gnVal s (m : Int) 2 = ckVal (List.take m s.data.toList)
instance (s : ByteArray) (m : Nat) : Decidable (sumOk s m) := by unfold sumOk; infer_instance
/-- what reading tells: 0, or why not -/
def gcode (s : ByteArray) : Int :=
  if s.size < 11 then 1 else if ¬ sumOk s (s.size - 2) then 2 else if gP s (s.size - 2) = s.data.toList then 0 else 3
theorem gcode_short {s : ByteArray} (h : s.size < 11) : gcode s = 1 := if_pos h
theorem gcode_sum {s : ByteArray} {m : Nat} (hm : s.size = m + 2) (h : ¬ s.size < 11) (h2 : ¬ sumOk s m) : gcode s = 2 := by
  rw [gcode, if_neg h, show s.size - 2 = m by omega, if_pos h2]
theorem gcode_form {s : ByteArray} {m : Nat} (hm : s.size = m + 2) (h : ¬ s.size < 11) (h2 : sumOk s m) (h3 : gP s m ≠ s.data.toList) : gcode s = 3 := by
  rw [gcode, if_neg h, show s.size - 2 = m by omega, if_neg (fun x => x h2), if_neg h3]
theorem gcode_ok {s : ByteArray} {m : Nat} (hm : s.size = m + 2) (h : ¬ s.size < 11) (h2 : sumOk s m) (h3 : gP s m = s.data.toList) : gcode s = 0 := by
  rw [gcode, if_neg h, show s.size - 2 = m by omega, if_neg (fun x => x h2), if_pos h3]
theorem ext_size (s : ByteArray) (i j : Nat) (hj : j ≤ s.size) : (s.extract i j).size = j - i := by
  rw [ByteArray.size_extract]; omega
end Go.Proofs.YtkndpkingmemoaaGreatDoor.Frm
namespace Go.Proofs.YtkndpkingmemoaaGreatDoor.Frm
open Go.RowKit Go.Proofs.YtkndpkingmemoaaGreatDoor.Num
set_option linter.unusedVariables false

/-- what GetFrame tells: the frame and the code -/
def GotE (s : ByteArray) (en : Ending) : Prop :=
  (gcode s = 0 ∧ en = .returned (.tuple #[.agg #[.int .i64 (gK s), .int .i64 (gD s), .int .i64 (gE s), .int .i64 (gS s), .int .i64 (gI s), .string (gB s (s.size - 2))], .int .i64 0])) ∨
  (gcode s ≠ 0 ∧ en = .returned (.tuple #[.agg #[.int .i64 0, .int .i64 0, .int .i64 0, .int .i64 0, .int .i64 0, .string ByteArray.empty], .int .i64 (gcode s)]))

/-- a frame stored whole into a box -/
theorem six_set {w : World} {a : Nat} {k0 d0 e0 s0 i0 : Int} {b0 : ByteArray} (h : B6 w a k0 d0 e0 s0 i0 b0) (k d e s i : Int) (b : ByteArray) :
    B6 ((((((w.setCell ⟨a, 0, none⟩ (.int .i64 k)).setCell ⟨a, 1, none⟩ (.int .i64 d)).setCell ⟨a, 2, none⟩ (.int .i64 e)).setCell ⟨a, 3, none⟩ (.int .i64 s)).setCell ⟨a, 4, none⟩ (.int .i64 i)).setCell ⟨a, 5, none⟩ (.string b)) a k d e s i b := by
  obtain ⟨c0, c1, c2, c3, c4, c5, hlt⟩ := h
  refine ⟨?_, ?_, ?_, ?_, ?_, ?_, by simpa using hlt⟩ <;> simp [go_sem, c0, c1, c2, c3, c4, c5]
theorem six_low {W w : World} {a : Nat} (h : Below W.heap.size W w) (ha : W.heap.size ≤ a) (k d e s i : Int) (b : ByteArray) :
    Below W.heap.size W ((((((w.setCell ⟨a, 0, none⟩ (.int .i64 k)).setCell ⟨a, 1, none⟩ (.int .i64 d)).setCell ⟨a, 2, none⟩ (.int .i64 e)).setCell ⟨a, 3, none⟩ (.int .i64 s)).setCell ⟨a, 4, none⟩ (.int .i64 i)).setCell ⟨a, 5, none⟩ (.string b)) :=
  (((((h.setCell ha _).setCell ha _).setCell ha _).setCell ha _).setCell ha _).setCell ha _
theorem slice_9 (s : ByteArray) (m : Nat) (h9 : 9 ≤ m) (hm : m ≤ s.size) (wx : World) : (Instr.slice 9 (.string s) (some (.int .i64 9)) (some (.int .i64 (m : Int))) none).run Tryz.prog wx = .ok (.string (s.extract 9 m)) wx :=
  run_slice_string wx 9 s .i64 .i64 9 (m : Int) Tryz.underlying9 (by omega) (by omega) (by omega)
end Go.Proofs.YtkndpkingmemoaaGreatDoor.Frm
namespace Go.Proofs.YtkndpkingmemoaaGreatDoor.Frm
open Go.RowKit Go.Proofs.YtkndpkingmemoaaGreatDoor.Num
set_option linter.unusedVariables false

theorem len_size (s : ByteArray) : s.data.toList.length = s.size := by rw [Array.length_toList]; rfl
theorem cut_mid {x y z : List UInt8} {p n : Nat} (hx : x.length = p) (hy : y.length = n) : ((x ++ y ++ z).drop p).take n = y := by
  subst hx hy
  rw [List.append_assoc, List.drop_left, List.take_left]
theorem gn_putVal {x n : Int} (h0 : 0 ≤ x) (h1 : 1 ≤ n) (h4 : n ≤ 4) (hx : x < 256 ^ n.toNat) : (gn (putVal x n) : Int) = x := by
  rw [putVal_ok ⟨h0, h1, h4⟩, gn_pb]
  obtain ⟨y, rfl⟩ := Int.eq_ofNat_of_zero_le h0
  rw [Int.toNat_natCast, Nat.mod_eq_of_lt]
  exact Int.ofNat_lt.1 (by simpa using hx)
/-- a number that stands in a text's bytes -/
theorem gnVal_mid {s : ByteArray} {x y z : List UInt8} {v : Int} {p n : Nat} (hs : s.data.toList = x ++ y ++ z) (hx : x.length = p) (hy : y = putVal v n) (hn1 : 1 ≤ n) (hn4 : n ≤ 4) (hv0 : 0 ≤ v) (hv1 : v < 256 ^ n) : gnVal s (p : Int) (n : Int) = v := by
  have hyl : y.length = n := by rw [hy, putVal_len hv0 (by omega) (by omega)]; omega
  have hsz : s.size = p + n + z.length := by rw [← len_size, hs, List.length_append, List.length_append, hx, hyl]
  rw [gnVal_ok (by unfold gnOk; omega)]
  unfold gcut
  rw [show ((p : Int)).toNat = p by omega, show ((n : Int)).toNat = n by omega, hs, cut_mid hx hyl, hy]
  exact gn_putVal hv0 (by omega) (by omega) (by simpa using hv1)
theorem ba_ext {a b : ByteArray} (h : a.data.toList = b.data.toList) : a = b := by
  apply ByteArray.ext
  exact Array.ext' h
/-- a right frame comes back from its bytes -/
theorem back {k d e s i : Int} {b S : ByteArray} (h : FOk k d e s i b.size) (hS : S.data.toList = frBytes k d e s i b.data.toList) :
    gcode S = 0 ∧ gK S = k ∧ gD S = d ∧ gE S = e ∧ gS S = s ∧ gI S = i ∧ gB S (S.size - 2) = b ∧ S.size = 11 + b.size := by
  have hlen := len_size b
  have hl := frBytes_len (b := b.data.toList) (by rw [hlen]; exact h)
  have hhl := head_len (b := b.data.toList) (by rw [hlen]; exact h)
  have hsz : S.size = 11 + b.size := by rw [← len_size, hS, hl, hlen]
  obtain ⟨h1, h2, h3, h4, h5, h6, h7, h8, h9, h10, h11⟩ := h.bounds
  have l1 : (putVal k 1).length = 1 := putVal_len h1 (by omega) (by omega)
  have l2 : (putVal d 1).length = 1 := putVal_len h3 (by omega) (by omega)
  have l3 : (putVal e 2).length = 2 := putVal_len h5 (by omega) (by omega)
  have l4 : (putVal s 2).length = 2 := putVal_len h7 (by omega) (by omega)
  have l5 : (putVal i 2).length = 2 := putVal_len h9 (by omega) (by omega)
  have l6 : (putVal (b.data.toList.length : Int) 1).length = 1 := putVal_len (by omega) (by omega) (by omega)
  obtain ⟨ck, hck⟩ : ∃ ck, ck = putVal (ckVal (head k d e s i b.data.toList)) 2 := ⟨_, rfl⟩
  have hfr : S.data.toList = head k d e s i b.data.toList ++ ck := by rw [hS, frBytes, hck]
  have g1 : gK S = k := gnVal_mid (x := []) (y := putVal k 1) (z := putVal d 1 ++ putVal e 2 ++ putVal s 2 ++ putVal i 2 ++ putVal (b.data.toList.length : Int) 1 ++ b.data.toList ++ ck) (p := 0) (n := 1) (by rw [hfr, head]; simp) rfl rfl (by omega) (by omega) h1 (by omega)
  have g2 : gD S = d := gnVal_mid (x := putVal k 1) (y := putVal d 1) (z := putVal e 2 ++ putVal s 2 ++ putVal i 2 ++ putVal (b.data.toList.length : Int) 1 ++ b.data.toList ++ ck) (p := 1) (n := 1) (by rw [hfr, head]; simp) l1 rfl (by omega) (by omega) h3 (by omega)
  have g3 : gE S = e := gnVal_mid (x := putVal k 1 ++ putVal d 1) (y := putVal e 2) (z := putVal s 2 ++ putVal i 2 ++ putVal (b.data.toList.length : Int) 1 ++ b.data.toList ++ ck) (p := 2) (n := 2) (by rw [hfr, head]; simp) (by rw [List.length_append, l1, l2]) rfl (by omega) (by omega) h5 (by omega)
  have g4 : gS S = s := gnVal_mid (x := putVal k 1 ++ putVal d 1 ++ putVal e 2) (y := putVal s 2) (z := putVal i 2 ++ putVal (b.data.toList.length : Int) 1 ++ b.data.toList ++ ck) (p := 4) (n := 2) (by rw [hfr, head]; simp) (by rw [List.length_append, List.length_append, l1, l2, l3]) rfl (by omega) (by omega) h7 (by omega)
  have g5 : gI S = i := gnVal_mid (x := putVal k 1 ++ putVal d 1 ++ putVal e 2 ++ putVal s 2) (y := putVal i 2) (z := putVal (b.data.toList.length : Int) 1 ++ b.data.toList ++ ck) (p := 6) (n := 2) (by rw [hfr, head]; simp) (by rw [List.length_append, List.length_append, List.length_append, l1, l2, l3, l4]) rfl (by omega) (by omega) h9 (by omega)
  have hck2 := ckVal_bd (head k d e s i b.data.toList)
  have lck : ck.length = 2 := by rw [hck]; exact putVal_len hck2.1 (by omega) (by omega)
  have hm : S.size = (9 + b.size) + 2 := by omega
  have g6 : gB S (9 + b.size) = b := by
    apply ba_ext
    unfold gB
    rw [ByteArray.data_extract, Array.toList_extract, List.extract_eq_take_drop, hfr, head]
    rw [List.append_assoc, List.drop_left' (by simp only [List.length_append]; omega), show 9 + b.size - 9 = b.data.toList.length by omega, List.take_left]
  have hsum : sumOk S (9 + b.size) := by
    unfold sumOk
    have htk : List.take (9 + b.size) S.data.toList = head k d e s i b.data.toList := by
      rw [hfr, List.take_left' (by omega)]
    rw [htk]
    exact gnVal_mid (x := head k d e s i b.data.toList) (y := ck) (z := []) (n := 2) (by rw [hfr]; simp) (by omega) hck (by omega) (by omega) hck2.1 (by omega)
  refine ⟨gcode_ok hm (by omega) hsum ?_, g1, g2, g3, g4, g5, ?_, hsz⟩
  · rw [gP, g1, g2, g3, g4, g5, g6, putF_yes (by rw [hlen]; exact h), hS]
  · rw [show S.size - 2 = 9 + b.size by omega, g6]
/-- bytes that can be read tell their length -/
theorem told_len {S : ByteArray} (h : gcode S = 0) : 11 ≤ S.size ∧ gnVal S 8 1 = (S.size : Int) - 11 ∧ FOk (gK S) (gD S) (gE S) (gS S) (gI S) (gB S (S.size - 2)).size ∧ S.data.toList = frBytes (gK S) (gD S) (gE S) (gS S) (gI S) (gB S (S.size - 2)).data.toList := by
  have h11 : ¬ S.size < 11 := fun hx => by rw [gcode_short hx] at h; omega
  obtain ⟨m, hm⟩ : ∃ m, S.size = m + 2 := ⟨S.size - 2, by omega⟩
  have hsum : sumOk S m := Decidable.byContradiction fun hx => by rw [gcode_sum hm h11 hx] at h; omega
  have hform : gP S m = S.data.toList := Decidable.byContradiction fun hx => by rw [gcode_form hm h11 hsum hx] at h; omega
  have hbl : (gB S m).size = m - 9 := ext_size S 9 m (by omega)
  have hlen := len_size (gB S m)
  have hok : FOk (gK S) (gD S) (gE S) (gS S) (gI S) (gB S m).size := by
    refine Decidable.byContradiction fun hx => ?_
    rw [gP, putF_no (by rw [hlen]; exact hx)] at hform
    have := len_size S
    rw [← hform] at this
    simp at this
    omega
  have hfr : S.data.toList = frBytes (gK S) (gD S) (gE S) (gS S) (gI S) (gB S m).data.toList := by
    rw [gP, putF_yes (by rw [hlen]; exact hok)] at hform
    exact hform.symm
  obtain ⟨h1, h2, h3, h4, h5, h6, h7, h8, h9, h10, h11'⟩ := hok.bounds
  rw [show S.size - 2 = m by omega]
  refine ⟨by omega, ?_, hok, hfr⟩
  have l1 : (putVal (gK S) 1).length = 1 := putVal_len h1 (by omega) (by omega)
  have l2 : (putVal (gD S) 1).length = 1 := putVal_len h3 (by omega) (by omega)
  have l3 : (putVal (gE S) 2).length = 2 := putVal_len h5 (by omega) (by omega)
  have l4 : (putVal (gS S) 2).length = 2 := putVal_len h7 (by omega) (by omega)
  have l5 : (putVal (gI S) 2).length = 2 := putVal_len h9 (by omega) (by omega)
  have := gnVal_mid (s := S) (x := putVal (gK S) 1 ++ putVal (gD S) 1 ++ putVal (gE S) 2 ++ putVal (gS S) 2 ++ putVal (gI S) 2) (y := putVal ((gB S m).data.toList.length : Int) 1) (z := (gB S m).data.toList ++ putVal (ckVal (head (gK S) (gD S) (gE S) (gS S) (gI S) (gB S m).data.toList)) 2) (p := 8) (n := 1) (v := ((gB S m).data.toList.length : Int))
    (by rw [hfr]; unfold frBytes; rw [head]; simp only [List.append_assoc]) (by simp only [List.length_append]; omega) rfl (by omega) (by omega) (by omega) (by omega)
  rw [show (8 : Int) = ((8 : Nat) : Int) by rfl, show (1 : Int) = ((1 : Nat) : Int) by rfl, this]
  omega
end Go.Proofs.YtkndpkingmemoaaGreatDoor.Frm
