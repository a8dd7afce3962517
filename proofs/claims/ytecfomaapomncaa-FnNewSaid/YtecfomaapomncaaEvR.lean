/-
  The walks of Old and Ready, of the program and of the specification, where neither At nor Ttl is below 0 or beyond what a draw makes of them.
-/
import Derived.Test.YtecfomaapomncaaEvW
namespace Go.Proofs.Ytecfomaapomncaa.Evt
open Go.RowKit
set_option linter.unusedVariables false

/-- times that don't run over -/
def Sml (a t : Int) : Prop := 0 ≤ a ∧ a ≤ 2000000000 ∧ 0 ≤ t ∧ t ≤ 2000000000
def OpenP (s : Int) : Prop := s = 0 ∨ s = 1
instance (s : Int) : Decidable (OpenP s) := by unfold OpenP; infer_instance
def openB (s : Int) : Bool := decide (OpenP s)
def OldP (a t s now : Int) : Prop := OpenP s ∧ a + t ≤ now
instance (a t s now : Int) : Decidable (OldP a t s now) := by unfold OldP; infer_instance
def oldB (a t s now : Int) : Bool := decide (OldP a t s now)
def overB (a t now : Int) : Bool := decide (a + t ≤ now)
def RdyP (a t n s now : Int) : Prop := s = 0 ∧ n ≤ now ∧ ¬ (a + t ≤ now)
instance (a t n s now : Int) : Decidable (RdyP a t n s now) := by unfold RdyP; infer_instance
def rdyB (a t n s now : Int) : Bool := decide (RdyP a t n s now)
def dueB (n now : Int) : Bool := decide (n ≤ now)
theorem old_eq (a t s now : Int) : oldB a t s now = (openB s && overB a t now) := by by_cases h : OpenP s <;> by_cases h2 : a + t ≤ now <;> simp [oldB, openB, overB, OldP, h, h2]
theorem rdy_eq (a t n s now : Int) : rdyB a t n s now = ((s == 0) && (dueB n now && !overB a t now)) := by
  by_cases h : s = 0 <;> by_cases h1 : n ≤ now <;> by_cases h2 : a + t ≤ now <;> simp [rdyB, RdyP, dueB, overB, h, h1, h2]

/-- a box of a message's times and status -/
structure M4 (w : World) (k : Nat) (a t n s : Int) : Prop where
  c0 : w.cell? ⟨k, 0, none⟩ = some (.int .i64 a)
  c1 : w.cell? ⟨k, 1, none⟩ = some (.int .i64 t)
  c2 : w.cell? ⟨k, 2, none⟩ = some (.int .i64 n)
  c3 : w.cell? ⟨k, 3, none⟩ = some (.int .i64 s)
  lt : k < w.heap.size
theorem M4.new (w : World) (a t n s : Int) (ty : TypeId) : M4 (w.alloc (.cells #[.int .i64 a, .int .i64 t, .int .i64 n, .int .i64 s] ty)) w.heap.size a t n s :=
  ⟨cell_of_row _ _ 0 _ ty (0, 0) (heap_alloc_new w _), cell_of_row _ _ 1 _ ty (0, 0) (heap_alloc_new w _), cell_of_row _ _ 2 _ ty (0, 0) (heap_alloc_new w _), cell_of_row _ _ 3 _ ty (0, 0) (heap_alloc_new w _), by simp⟩
theorem M4.below {w w' : World} {k : Nat} {a t n s : Int} (h : M4 w k a t n s) (hb : Below w.heap.size w w') : M4 w' k a t n s :=
  ⟨(hb.cell (p := ⟨k, 0, none⟩) h.lt).trans h.c0, (hb.cell (p := ⟨k, 1, none⟩) h.lt).trans h.c1, (hb.cell (p := ⟨k, 2, none⟩) h.lt).trans h.c2, (hb.cell (p := ⟨k, 3, none⟩) h.lt).trans h.c3, Nat.lt_of_lt_of_le h.lt hb.size⟩

theorem over_any (a t n now : Int) (w : World) (h : Sml a t) :
    Calls Try.prog 98 #[.agg #[.int .i64 a, .int .i64 t, .int .i64 n], .int .i64 now] w fun e w' => e = .returned (.bool (overB a t now)) ∧ Below w.heap.size w w' := by
  obtain ⟨h0, h1, h2, h3⟩ := h
  have hw : IntKind.i64.wrap (a + t) = a + t := IntWalk.i64_in _ (by omega)
  have hw2 : wrap64 (a + t) = a + t := by unfold wrap64; omega
  have hd1 : decide (a + t < a) = false := decide_eq_false (by omega)
  have hd2 : decide (t < 0) = false := decide_eq_false (by omega)
  go_enter Try.func98, Try.ntmps98
  rcases (show t = 0 ∨ 0 < t by omega) with rfl | ht
  all_goals
    go_wp2
    all_goals
      go_ret
      refine ⟨?_, bOne _ _⟩
      unfold overB
      first
        | rfl
        | exact bool_iff (by omega)

theorem due_any (a t n now : Int) (w : World) :
    Calls Try.prog 78 #[.agg #[.int .i64 a, .int .i64 t, .int .i64 n], .int .i64 now] w fun e w' => e = .returned (.bool (dueB n now)) ∧ Below w.heap.size w w' := by
  go_enter Try.func78, Try.ntmps78
  go_wp2
  go_ret
  exact ⟨rfl, bOne _ _⟩

theorem open_any (a t n s : Int) (w : World) :
    Calls Try.prog 44 #[.agg #[.int .i64 a, .int .i64 t, .int .i64 n, .int .i64 s]] w fun e w' => e = .returned (.bool (openB s)) ∧ Below w.heap.size w w' := by
  rcases (show s = 0 ∨ s = 1 ∨ (s ≠ 0 ∧ s ≠ 1) by omega) with rfl | rfl | ⟨h0, h1⟩
  · go_enter Try.func44, Try.ntmps44
    go_wp2
    go_ret
    exact ⟨rfl, bOne _ _⟩
  · go_enter Try.func44, Try.ntmps44
    go_wp2
    go_ret
    exact ⟨rfl, bOne _ _⟩
  · have e0 : (s == 0) = false := beq_eq_false_iff_ne.2 h0
    have e1 : (s == 1) = false := beq_eq_false_iff_ne.2 h1
    have HO := Lib.hid (show openB s = false from decide_eq_false (by unfold OpenP; omega))
    go_enter Try.func44, Try.ntmps44
    go_wp2
    go_ret
    exact ⟨by rw [HO.out]; rfl, bOne _ _⟩

set_option maxRecDepth 100000 in
theorem mold_any (a t n s now : Int) (w : World) (h : Sml a t) :
    Calls Try.prog 79 #[.agg #[.int .i64 a, .int .i64 t, .int .i64 n, .int .i64 s], .int .i64 now] w fun e w' => e = .returned (.bool (oldB a t s now)) ∧ Below w.heap.size w w' := by
  have HO := Lib.hid (old_eq a t s now)
  have HM := Lib.hid h
  have HL := Lib.hid (bOne w (.cells #[.int .i64 a, .int .i64 t, .int .i64 n, .int .i64 s] 69))
  have HB := Lib.hid (M4.new w a t n s 69)
  clear h
  go_enter Try.func79, Try.ntmps79
  go_wp2_with fail
  refine (open_any a t n s _).mono ?_
  rintro e w1 ⟨rfl, hb1⟩
  have HL1 := Lib.hid (bAfter HL.out hb1 (by simp))
  have HB1 := Lib.hid (HB.out.below hb1)
  clear hb1 HL HB
  obtain ⟨c0, c1, c2, c3, hlt⟩ := HB1.out
  obtain ⟨x, hx⟩ : ∃ x, x = openB s := ⟨_, rfl⟩
  rw [← hx] at HO ⊢
  clear hx
  cases x
  · go_wp2_with fail
    go_ret
    exact ⟨by rw [HO.out]; rfl, HL1.out⟩
  · go_wp2_with fail
    refine (over_any a t n now _ HM.out).mono ?_
    rintro e w2 ⟨rfl, hb2⟩
    have HL2 := Lib.hid (bAfter HL1.out hb2 HL1.out.size)
    clear hb2
    go_wp2_with fail
    go_ret
    exact ⟨by rw [HO.out]; rfl, HL2.out⟩

set_option maxRecDepth 100000 in
set_option maxHeartbeats 1000000 in
theorem ready_any (i d c : Int) (b : ByteArray) (a t r n s : Int) (now : Int) (w : World) (h : Sml a t) :
    Calls Try.prog 45 #[.agg #[.int .i64 i, .int .i64 d, .int .i64 c, .string b, .int .i64 a, .int .i64 t, .int .i64 r, .int .i64 n, .int .i64 s], .int .i64 now] w fun e w' => e = .returned (.bool (rdyB a t n s now)) ∧ Below w.heap.size w w' := by
  have HM := Lib.hid h
  have HR := Lib.hid (rdy_eq a t n s now)
  have HO := Lib.hid (old_eq a t s now)
  have HL := Lib.hid (bOne w (.cells #[.int .i64 i, .int .i64 d, .int .i64 c, .string b, .int .i64 a, .int .i64 t, .int .i64 r, .int .i64 n, .int .i64 s] 65))
  clear h
  go_enter Try.func45, Try.ntmps45
  go_wp2_with fail
  refine (msg_any i d c b a t r n s _).mono ?_
  rintro e w1 ⟨rfl, hb1⟩
  have HL1 := Lib.hid (bAfter (bAfter HL.out hb1 (by simp)) (bOne w1 (.cells #[.int .i64 a, .int .i64 t, .int .i64 n, .int .i64 s] 69)) (Nat.le_trans HL.out.size hb1.size))
  have HB1 := Lib.hid (M4.new w1 a t n s 69)
  clear hb1 HL
  by_cases hs : s = 0
  · subst hs
    go_wp2_with fail
    refine (due_any a t n now _).mono ?_
    rintro e w2 ⟨rfl, hb2⟩
    have HL2 := Lib.hid (bAfter HL1.out hb2 HL1.out.size)
    have HB2 := Lib.hid (HB1.out.below hb2)
    clear hb2 HL1 HB1
    obtain ⟨c0, c1, c2, c3, hlt⟩ := HB2.out
    obtain ⟨x, hx⟩ : ∃ x, x = dueB n now := ⟨_, rfl⟩
    rw [← hx] at HR ⊢
    clear hx
    cases x
    · go_wp2_with fail
      go_ret
      exact ⟨by rw [HR.out]; rfl, HL2.out⟩
    · go_wp2_with fail
      refine (mold_any a t n 0 now _ HM.out).mono ?_
      rintro e w3 ⟨rfl, hb3⟩
      have HL3 := Lib.hid (bAfter HL2.out hb3 HL2.out.size)
      clear hb3
      go_wp2_with fail
      go_ret
      exact ⟨by rw [HR.out]; show _ = Ending.returned (Value.bool (!overB a t now)); rw [show overB a t now = oldB a t 0 now by rw [HO.out]; rfl]; rfl, HL3.out⟩
  · have e0 : (s == 0) = false := beq_eq_false_iff_ne.2 hs
    rw [e0] at HR
    go_wp2_with fail
    go_ret
    exact ⟨by rw [HR.out]; rfl, HL1.out⟩

end Go.Proofs.Ytecfomaapomncaa.Evt
