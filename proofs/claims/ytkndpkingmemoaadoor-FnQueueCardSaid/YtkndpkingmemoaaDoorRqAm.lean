/-
  A gate that takes messages, one behind the other, of which none is knocked for.
-/
import Derived.Test.YtkndpkingmemoaaDoorRjAm
import Derived.Test.YtkndpkingmemoaaDoorMgo
namespace Go.Proofs.YtkndpkingmemoaaDoor.Gat
open Go.RowKit Go.Proofs.YtkndpkingmemoaaDoor.Kit
open Lnk (bOne bAfter IOwn IIs below_keep below_drew' bcell low_after low_alloc grown_of_below)
set_option linter.unusedVariables false
set_option linter.unusedSimpArgs false

/-- the next message -/
def evQ (en : Nat) (d : Int) : Ev := ⟨(en : Int) + 1, d, 1, ⟨#[]⟩, 0, 9, 0, 0, 0⟩
/-- what comes of the next message: it is taken, or the queue is full -/
def RqX (qu d : Int) (E E2 : List Ev) (en en2 : Nat) (id su : Int) : Prop := ((openN d E : Int) < qu ∧ en2 = en + 1 ∧ E2 = E ++ [evQ en d] ∧ id = (en2 : Int) ∧ su = 0) ∨ (¬ (openN d E : Int) < qu ∧ en2 = en ∧ E2 = E ∧ id = 0 ∧ su = 7)
def RqE (n : Nat) (qu : Int) (E : List Ev) : Prop := (∀ k, (h : k < E.length) → WEv n k E[k]) ∧ ∀ d : Int, (openN d E : Int) ≤ qu
theorem rqe_nil {n : Nat} {qu : Int} (h : 0 ≤ qu) : RqE n qu [] := ⟨fun k hk => (by simp at hk), fun d => by simpa [openN] using h⟩
theorem open_snoc (E : List Ev) (en : Nat) (d x : Int) : (openN x (E ++ [evQ en d]) : Int) = (openN x E : Int) + (if d = x then 1 else 0) := by
  unfold openN
  rw [List.countP_append]
  have h1 : List.countP (isO x) [evQ en d] = if d = x then 1 else 0 := by
    unfold isO evQ
    by_cases h : d = x <;> simp [h, Evt.openB, Evt.OpenP]
  rw [h1]
  split <;> push_cast <;> rfl
theorem rqe_step {n : Nat} {qu : Int} {E : List Ev} (h : RqE n qu E) {d : Int} (hd1 : 1 ≤ d) (hd2 : d ≤ n) (hq : (openN d E : Int) < qu) : RqE n qu (E ++ [evQ E.length d]) := by
  refine ⟨fun k hk => ?_, fun x => ?_⟩
  · by_cases hk2 : k < E.length
    · rw [List.getElem_append_left hk2]; exact h.1 k hk2
    · have e : k = E.length := by simp at hk; omega
      subst e
      rw [List.getElem_append_right (Nat.le_refl _)]
      simp only [Nat.sub_self, List.getElem_cons_zero]
      exact ⟨d, ⟨#[]⟩, 9, rfl, hd1, hd2, by decide, by omega, by omega⟩
  · rw [open_snoc]
    have h1 := h.2 x
    split
    · rename_i he; subst he; omega
    · omega
theorem open_sum {n : Nat} {qu : Int} {E : List Ev} (h : RqE n qu E) (hn1 : 1 ≤ n) (hn3 : n ≤ 3) : (E.length : Int) ≤ qu * n := by
  have hm : ∀ e ∈ E, (1 ≤ e.d ∧ e.d ≤ n) ∧ e.s = 0 := fun e he => by
    obtain ⟨k, hk, rfl⟩ := List.getElem_of_mem he
    obtain ⟨d, b, t, hx, h1, h2, _⟩ := h.1 k hk
    rw [hx]
    dsimp only
    omega
  have hs : ∀ L : List Ev, (∀ e ∈ L, (1 ≤ e.d ∧ e.d ≤ n) ∧ e.s = 0) → L.length ≤ openN 1 L + openN 2 L + openN 3 L := by
    intro L
    induction L with
    | nil => intro _; simp
    | cons a l ih =>
      intro hL
      have h1 := ih (fun e he => hL e (by simp [he]))
      obtain ⟨h2, h3⟩ := hL a (by simp)
      have hc : ∀ x : Int, openN x (a :: l) = openN x l + (if a.d = x then 1 else 0) := fun x => by
        unfold openN
        rw [List.countP_cons]
        unfold isO
        rw [h3]
        by_cases hx : a.d = x <;> simp [hx, Evt.openB, Evt.OpenP]
      rw [hc, hc, hc, List.length_cons]
      rcases (show a.d = 1 ∨ a.d = 2 ∨ a.d = 3 by omega) with h4 | h4 | h4 <;> rw [h4] <;> simp <;> omega
  have hz : ∀ x : Int, (n : Int) < x → openN x E = 0 := fun x hx => by
    unfold openN
    rw [List.countP_eq_zero]
    intro e he
    have h1 := (hm e he).1
    unfold isO
    have : ¬ e.d = x := by omega
    simp [this]
  have h1 := hs E hm
  have q1 := h.2 1
  have q2 := h.2 2
  have q3 := h.2 3
  rcases (show n = 1 ∨ n = 2 ∨ n = 3 by omega) with rfl | rfl | rfl
  · have z2 := hz 2 (by decide); have z3 := hz 3 (by decide); push_cast; omega
  · have z3 := hz 3 (by decide); push_cast; omega
  · push_cast; omega
theorem rq_code {n : Nat} {qu d : Int} {E : List Ev} (hlen : E.length ≤ 30) (hd1 : 1 ≤ d) (hd2 : d ≤ n) :
    ((openN d E : Int) < qu → subC true 0 n d 1 (⟨#[]⟩ : ByteArray).size 1000 9 qu E.length E.length E = 0) ∧ (¬ (openN d E : Int) < qu → subC true 0 n d 1 (⟨#[]⟩ : ByteArray).size 1000 9 qu E.length E.length E = 7) := by
  have hin : inB 1 (n : Int) d = true := by unfold inB; simp; omega
  have h8 : ((E.length : Int) == 60 || (E.length : Int) == 9999) = false := by simp; omega
  constructor
  · intro h
    have hq : decide (qu ≤ (openN d E : Int)) = false := by simpa using h
    unfold subC
    rw [hin, hq, h8]
    rfl
  · intro h
    have hq : decide (qu ≤ (openN d E : Int)) = true := by simp; omega
    unfold subC
    rw [hin, hq]
    rfl
theorem rqe_wf {n : Nat} {qu : Int} {E : List Ev} (h : RqE n qu E) (hlen : E.length ≤ 30) : ∀ e ∈ E, (Lit.int .i64 e.i).wf = true := by
  intro e he
  obtain ⟨k, hk, rfl⟩ := List.getElem_of_mem he
  obtain ⟨d, b, t, hx, _⟩ := h.1 k hk
  rw [hx]
  exact WalkArith.wf_i64 (by dsimp only; omega)

theorem gok_rq {n : Nat} {qu wi ti qa bu le pb pc pj : Int} (hc : CfgL (n : Int) qu wi ti qa bu le pb pc pj) {E : List Ev} (hE : RqE n qu E) (hlen : E.length ≤ 30) :
    gokB (n : Int) qu wi ti qa bu le pb pc pj 1000 0 (E.length : Nat) E.length n 0 n 0 (E.length : Nat) 0 0 E (List.replicate n lk0) (List.replicate n 0) [] = true :=
  gok_wait hc hE.1 (by omega) List.length_replicate (rjk_new n).2 hE.2
theorem small_rq {n : Nat} {E : List Ev} (hn : n ≤ 1000) (hlen : E.length ≤ 30) : Small E.length n n 0 (List.replicate n lk0) :=
  ⟨by omega, (small_new' hn).2⟩

theorem impl_rq (w : World) (n : Nat) (qu wi ti qa bu le pb pc pj : Int) (ea : Option Addr) (ec : Nat) (ka : Option Addr) (kc : Nat) (fa : Option Addr) (fc : Nat) (ra : Option Addr) (rc : Nat) (E E2 : List Ev) (en en2 : Nat) (d id su : Int) (hc : CfgL (n : Int) qu wi ti qa bu le pb pc pj) (hE : RqE n qu E) (hlen : E.length ≤ 30) (hen : E.length = en) (hd1 : 1 ≤ d) (hd2 : d ≤ n)
    (hx : RqX qu d E E2 en en2 id su) (hg : ErrT w) (h : GIs w.heap.size w ea en ka n fa n ra 0 E (List.replicate n lk0) (List.replicate n 0) []) :
    Calls Tryd.prog 10 #[.agg #[.int .i64 n, .int .i64 qu, .int .i64 wi, .int .i64 ti, .int .i64 qa, .int .i64 bu, .int .i64 le, .int .i64 pb, .int .i64 pc, .int .i64 pj, .int .i64 1000, .int .i64 0, .int .i64 (en : Nat), .slice ea en ec, .slice ka n kc, .int .i64 0, .slice fa n fc, .slice ra 0 rc, .int .i64 (en : Nat), .int .i64 0, .int .i64 0], .int .i64 d, .int .i64 1, .string ⟨#[]⟩, .int .i64 9] w fun e w' => (∃ ea' ec' ka' kc' fa' fc' ra' rc' vs, e = .returned (.tuple #[.agg #[.int .i64 n, .int .i64 qu, .int .i64 wi, .int .i64 ti, .int .i64 qa, .int .i64 bu, .int .i64 le, .int .i64 pb, .int .i64 pc, .int .i64 pj, .int .i64 1000, .int .i64 0, .int .i64 (en2 : Nat), .slice ea' en2 ec', .slice ka' n kc', .int .i64 0, .slice fa' n fc', .slice ra' 0 rc', .int .i64 (en2 : Nat), .int .i64 0, .int .i64 0], .int .i64 id, .int .i64 su]) ∧ GOwn w.heap.size w' (.slice ea' en2 ec') (.slice ka' n kc') (.slice fa' n fc') (.slice ra' 0 rc') vs E2 (List.replicate n lk0) (List.replicate n 0) []) ∧ Below w.heap.size w w' := by
  subst hen
  have hn := hc.1
  have hcode := rq_code (n := n) (qu := qu) (d := d) (E := E) hlen hd1 hd2
  refine (implSubmit_any w (n : Int) qu wi ti qa bu le pb pc pj 1000 0 (E.length : Nat) ea E.length ec ka n kc 0 fa n fc ra 0 rc (E.length : Nat) 0 0 E (List.replicate n lk0) (List.replicate n 0) [] d 1 ⟨#[]⟩ 9 (rqe_wf hE hlen) nowf h (small_rq (by omega) hlen) (by decide) hg).mono ?_
  rintro e w' ⟨⟨ea', ec', ka', kc', fa', fc', ra', rc', vs, he, ho⟩, hb⟩
  rw [gok_rq hc hE hlen] at he ho
  rcases hx with ⟨hq, rfl, rfl, rfl, rfl⟩ | ⟨hq, rfl, rfl, rfl, rfl⟩
  · rw [hcode.1 hq] at he ho
    have hl : (E ++ [evQ E.length d]).length = E.length + 1 := by simp
    have hcast : (E.length : Int) + 1 = ((E.length + 1 : Nat) : Int) := by push_cast; rfl
    rw [List.length_replicate, List.length_replicate] at he
    rw [List.length_replicate, List.length_replicate] at ho
    refine ⟨⟨ea', ec', ka', kc', fa', fc', ra', rc', vs, ?_, ?_⟩, hb⟩
    · rw [he, ← hcast, ← hl]; rfl
    · rw [← hl]; exact ho
  · rw [hcode.2 hq] at he ho
    rw [List.length_replicate, List.length_replicate] at he
    rw [List.length_replicate, List.length_replicate] at ho
    exact ⟨⟨ea', ec', ka', kc', fa', fc', ra', rc', vs, he, ho⟩, hb⟩

theorem spec_rq (w : World) (n : Nat) (qu wi ti qa bu le pb pc pj : Int) (ea : Option Addr) (ec : Nat) (ka : Option Addr) (kc : Nat) (fa : Option Addr) (fc : Nat) (ra : Option Addr) (rc : Nat) (E E2 : List Ev) (en en2 : Nat) (d id su : Int) (hc : CfgL (n : Int) qu wi ti qa bu le pb pc pj) (hE : RqE n qu E) (hlen : E.length ≤ 30) (hen : E.length = en) (hd1 : 1 ≤ d) (hd2 : d ≤ n)
    (hx : RqX qu d E E2 en en2 id su) (h : GIs w.heap.size w ea en ka n fa n ra 0 E (List.replicate n lk0) (List.replicate n 0) []) :
    Calls Tryd.prog 11 #[.agg #[.int .i64 n, .int .i64 qu, .int .i64 wi, .int .i64 ti, .int .i64 qa, .int .i64 bu, .int .i64 le, .int .i64 pb, .int .i64 pc, .int .i64 pj, .int .i64 1000, .int .i64 0, .int .i64 (en : Nat), .slice ea en ec, .slice ka n kc, .int .i64 0, .slice fa n fc, .slice ra 0 rc, .int .i64 (en : Nat), .int .i64 0, .int .i64 0], .int .i64 d, .int .i64 1, .string ⟨#[]⟩, .int .i64 9] w fun e w' => (∃ ea' ec' ka' kc' fa' fc' ra' rc' vs, e = .returned (.tuple #[.agg #[.int .i64 n, .int .i64 qu, .int .i64 wi, .int .i64 ti, .int .i64 qa, .int .i64 bu, .int .i64 le, .int .i64 pb, .int .i64 pc, .int .i64 pj, .int .i64 1000, .int .i64 0, .int .i64 (en2 : Nat), .slice ea' en2 ec', .slice ka' n kc', .int .i64 0, .slice fa' n fc', .slice ra' 0 rc', .int .i64 (en2 : Nat), .int .i64 0, .int .i64 0], .int .i64 id, .int .i64 su]) ∧ GOwn w.heap.size w' (.slice ea' en2 ec') (.slice ka' n kc') (.slice fa' n fc') (.slice ra' 0 rc') vs E2 (List.replicate n lk0) (List.replicate n 0) []) ∧ Below w.heap.size w w' := by
  subst hen
  have hn := hc.1
  have hcode := rq_code (n := n) (qu := qu) (d := d) (E := E) hlen hd1 hd2
  refine (specSubmit_any w (n : Int) qu wi ti qa bu le pb pc pj 1000 0 (E.length : Nat) ea E.length ec ka n kc 0 fa n fc ra 0 rc (E.length : Nat) 0 0 E (List.replicate n lk0) (List.replicate n 0) [] d 1 ⟨#[]⟩ 9 h (small_rq (by omega) hlen) (by decide)).mono ?_
  rintro e w' ⟨⟨ea', ec', ka', kc', fa', fc', ra', rc', vs, he, ho⟩, hb⟩
  rw [gok_rq hc hE hlen] at he ho
  rcases hx with ⟨hq, rfl, rfl, rfl, rfl⟩ | ⟨hq, rfl, rfl, rfl, rfl⟩
  · rw [hcode.1 hq] at he ho
    have hl : (E ++ [evQ E.length d]).length = E.length + 1 := by simp
    have hcast : (E.length : Int) + 1 = ((E.length + 1 : Nat) : Int) := by push_cast; rfl
    rw [List.length_replicate, List.length_replicate] at he
    rw [List.length_replicate, List.length_replicate] at ho
    refine ⟨⟨ea', ec', ka', kc', fa', fc', ra', rc', vs, ?_, ?_⟩, hb⟩
    · rw [he, ← hcast, ← hl]; rfl
    · rw [← hl]; exact ho
  · rw [hcode.2 hq] at he ho
    rw [List.length_replicate, List.length_replicate] at he
    rw [List.length_replicate, List.length_replicate] at ho
    exact ⟨⟨ea', ec', ka', kc', fa', fc', ra', rc', vs, he, ho⟩, hb⟩

end Go.Proofs.YtkndpkingmemoaaDoor.Gat
