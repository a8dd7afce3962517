/-
  A new gate: it is right; what it refuses.
-/
import Derived.Test.YtkndpkingmemoaaGreatDoorMgy
import Derived.Test.YtkndpkingmemoaaGreatDoorMgw
namespace Go.Proofs.YtkndpkingmemoaaGreatDoor.Gat
open Go.RowKit Go.Proofs.YtkndpkingmemoaaGreatDoor.Kit
open Lnk (bOne bAfter IOwn IIs below_keep below_drew' bcell low_after low_alloc grown_of_below)
open Frm (gcode gK gD gE gS gI gB)
set_option linter.unusedVariables false
set_option linter.unusedSimpArgs false

theorem gok_new {n : Nat} {qu wi ti qa bu le pb pc pj : Int} (h : CfgL (n : Int) qu wi ti qa bu le pb pc pj) : gokB (n : Int) qu wi ti qa bu le pb pc pj 1000 0 0 0 n 0 n 0 0 0 0 [] (List.replicate n lk0) (List.replicate n 0) [] = true :=
  gokB_of ⟨fun _ => (gate_iff rfl List.length_replicate List.length_replicate rfl).1 (gate_new h.ok rfl), fun _ => rfl⟩
/-- a new gate, refused -/
def NoEnd (n : Nat) (qu wi ti qa bu le pb pc pj : Int) (c : Int) (w w' : World) (e : Ending) : Prop :=
  (∃ ea ec ka kc fa fc ra rc, e = .returned (.tuple #[.agg #[.int .i64 n, .int .i64 qu, .int .i64 wi, .int .i64 ti, .int .i64 qa, .int .i64 bu, .int .i64 le, .int .i64 pb, .int .i64 pc, .int .i64 pj, .int .i64 1000, .int .i64 0, .int .i64 0, .slice ea 0 ec, .slice ka n kc, .int .i64 0, .slice fa n fc, .slice ra 0 rc, .int .i64 0, .int .i64 0, .int .i64 0], .int .i64 0, .int .i64 c])) ∧ Below w.heap.size w w'

theorem small_newg {n : Nat} (hn : n ≤ 1000) : Small 0 n n 0 (List.replicate n lk0) := by
  refine ⟨by omega, by omega, fun k hk => ?_, by omega, by omega⟩
  rw [List.eq_of_mem_replicate hk]
  decide
theorem recv_new (w : World) (n : Nat) (qu wi ti qa bu le pb pc pj : Int) (ea : Option Addr) (ec : Nat) (ka : Option Addr) (kc : Nat) (fa : Option Addr) (fc : Nat) (ra : Option Addr) (rc : Nat) (c : Int) (s : ByteArray) (hn : n ≤ 1000) (hsz : s.size ≤ 281474976710656) (hg : ErrT w) (h : GIs w.heap.size w ea 0 ka n fa n ra 0 [] (List.replicate n lk0) (List.replicate n 0) []) (hok : gokB (n : Int) qu wi ti qa bu le pb pc pj 1000 0 0 0 n 0 n 0 0 0 0 [] (List.replicate n lk0) (List.replicate n 0) [] = true)
    (hc : rcvE true s n (List.replicate n lk0) [] = [] ∧ rcvK true s n (List.replicate n lk0) = List.replicate n lk0 ∧ rcvN true s n (List.replicate n lk0) 0 = 0 ∧ rcvI true s n (List.replicate n lk0) = 0 ∧ rcvC true s n (List.replicate n lk0) = c) :
    Calls Tryz.prog 17 #[.agg #[.int .i64 n, .int .i64 qu, .int .i64 wi, .int .i64 ti, .int .i64 qa, .int .i64 bu, .int .i64 le, .int .i64 pb, .int .i64 pc, .int .i64 pj, .int .i64 1000, .int .i64 0, .int .i64 0, .slice ea 0 ec, .slice ka n kc, .int .i64 0, .slice fa n fc, .slice ra 0 rc, .int .i64 0, .int .i64 0, .int .i64 0], .string s] w fun e w' => NoEnd n qu wi ti qa bu le pb pc pj c w w' e := by
  refine (implReceive_any w (n : Int) qu wi ti qa bu le pb pc pj 1000 0 0 ea 0 ec ka n kc 0 fa n fc ra 0 rc 0 0 0 [] (List.replicate n lk0) (List.replicate n 0) [] s (fun e he => by cases he) (fun x hx => by cases hx) h (small_newg hn) hsz hg).mono ?_
  rintro e w' ⟨⟨ea', ec', ka', kc', fa', fc', ra', rc', vs, he, -⟩, hb⟩
  rw [hok, hc.1, hc.2.1, hc.2.2.1, hc.2.2.2.1, hc.2.2.2.2, List.length_replicate, List.length_replicate] at he
  exact ⟨⟨ea', ec', ka', kc', fa', fc', ra', rc', he⟩, hb⟩
theorem subm_new (w : World) (n : Nat) (qu wi ti qa bu le pb pc pj : Int) (ea : Option Addr) (ec : Nat) (ka : Option Addr) (kc : Nat) (fa : Option Addr) (fc : Nat) (ra : Option Addr) (rc : Nat) (d c t cd : Int) (s : ByteArray) (hn : n ≤ 1000) (hsz : s.size ≤ 1048576) (hg : ErrT w) (h : GIs w.heap.size w ea 0 ka n fa n ra 0 [] (List.replicate n lk0) (List.replicate n 0) []) (hok : gokB (n : Int) qu wi ti qa bu le pb pc pj 1000 0 0 0 n 0 n 0 0 0 0 [] (List.replicate n lk0) (List.replicate n 0) [] = true)
    (hc : subC true 0 n d c s.size 1000 t qu 0 0 [] = cd) (hne : cd ≠ 0) :
    Calls Tryz.prog 10 #[.agg #[.int .i64 n, .int .i64 qu, .int .i64 wi, .int .i64 ti, .int .i64 qa, .int .i64 bu, .int .i64 le, .int .i64 pb, .int .i64 pc, .int .i64 pj, .int .i64 1000, .int .i64 0, .int .i64 0, .slice ea 0 ec, .slice ka n kc, .int .i64 0, .slice fa n fc, .slice ra 0 rc, .int .i64 0, .int .i64 0, .int .i64 0], .int .i64 d, .int .i64 c, .string s, .int .i64 t] w fun e w' => NoEnd n qu wi ti qa bu le pb pc pj cd w w' e := by
  refine (implSubmit_any w (n : Int) qu wi ti qa bu le pb pc pj 1000 0 0 ea 0 ec ka n kc 0 fa n fc ra 0 rc 0 0 0 [] (List.replicate n lk0) (List.replicate n 0) [] d c s t (fun e he => by cases he) (fun x hx => by cases hx) h (small_newg hn) (Nat.le_trans hsz (by decide)) hg).mono ?_
  rintro e w' ⟨⟨ea', ec', ka', kc', fa', fc', ra', rc', vs, he, -⟩, hb⟩
  have hz : (cd == 0) = false := by simpa using hne
  rw [hok, hc, hz, List.length_replicate, List.length_replicate] at he
  exact ⟨⟨ea', ec', ka', kc', fa', fc', ra', rc', he⟩, hb⟩

theorem gis_zero (w : World) : GIs w.heap.size w none 0 none 0 none 0 none 0 [] [] [] [] := gis_new (n := 0) (by omega) ⟨⟨[], ⟨rfl, (by unfold maxLen; omega), fun k hk => (by simp at hk)⟩, rfl, fun k h => (by simp at h)⟩⟩ ⟨rfl, fun k hk => (by simp at hk)⟩
theorem gok_zero : gokB 0 0 0 0 0 0 0 0 0 0 0 0 0 0 0 0 0 0 0 0 0 [] [] [] [] = false :=
  gokB_of ⟨fun h => (by cases h), fun h => (by have h1 := h.1; unfold CfgOk at h1; omega)⟩
theorem recv_zero (w : World) (s : ByteArray) (hsz : s.size ≤ 281474976710656) (hg : ErrT w) :
    Calls Tryz.prog 17 #[.agg #[.int .i64 0, .int .i64 0, .int .i64 0, .int .i64 0, .int .i64 0, .int .i64 0, .int .i64 0, .int .i64 0, .int .i64 0, .int .i64 0, .int .i64 0, .int .i64 0, .int .i64 0, .slice none 0 0, .slice none 0 0, .int .i64 0, .slice none 0 0, .slice none 0 0, .int .i64 0, .int .i64 0, .int .i64 0], .string s] w fun e w' => (∃ ea ec ka kc fa fc ra rc, e = .returned (.tuple #[.agg #[.int .i64 0, .int .i64 0, .int .i64 0, .int .i64 0, .int .i64 0, .int .i64 0, .int .i64 0, .int .i64 0, .int .i64 0, .int .i64 0, .int .i64 0, .int .i64 0, .int .i64 0, .slice ea 0 ec, .slice ka 0 kc, .int .i64 0, .slice fa 0 fc, .slice ra 0 rc, .int .i64 0, .int .i64 0, .int .i64 0], .int .i64 0, .int .i64 6])) ∧ Below w.heap.size w w' := by
  refine (implReceive_any w 0 0 0 0 0 0 0 0 0 0 0 0 0 none 0 0 none 0 0 0 none 0 0 none 0 0 0 0 0 [] [] [] [] s (fun e he => by cases he) (fun x hx => by cases hx) (gis_zero w) (small_newg (n := 0) (by omega)) hsz hg).mono ?_
  rintro e w' ⟨⟨ea', ec', ka', kc', fa', fc', ra', rc', vs, he, -⟩, hb⟩
  obtain ⟨h1, h2, h3, h4, h5⟩ := rcv_bad (s := s) (de := 0) (K := []) (E := []) (ac := 0)
  rw [gok_zero, h1, h2, h3, h4, h5] at he
  exact ⟨⟨ea', ec', ka', kc', fa', fc', ra', rc', he⟩, hb⟩

def farS : ByteArray := ⟨(Frm.putF 2 6 0 1 0 []).toArray⟩
def oddS : ByteArray := ⟨(Frm.putF 1 1 0 1 1 []).toArray⟩
def nearS : ByteArray := ⟨(Frm.putF 4 1 0 1 0 []).toArray⟩
theorem far_fact : farS.size = 11 ∧ gcode farS = 0 ∧ gD farS = 6 ∧ gcode (farS.extract 0 10 ++ ⟨#[120]⟩) = 2 ∧ (farS.extract 0 10 ++ ⟨#[120]⟩ : ByteArray).size = 11 ∧ (farS.extract 0 10).size = 10 := by decide +kernel
theorem odd_fact : oddS.size = 11 ∧ gcode oddS = 0 ∧ gD oddS = 1 ∧ gK oddS = 1 := by decide +kernel
theorem near_fact : nearS.size = 11 ∧ gcode nearS = 0 ∧ gD nearS = 1 ∧ gK nearS = 4 := by decide +kernel
theorem none_fact : gcode ⟨#[]⟩ = 1 := by decide +kernel
section
variable {n : Nat}
theorem lt_no {n : Nat} {x : Int} (h : x ≤ n) : decide ((n : Int) < x) = false := by simpa using h
theorem lt_yes {n : Nat} {x : Int} (h : (n : Int) < x) : decide ((n : Int) < x) = true := by simpa using h
theorem one_c : rcvE true ⟨#[]⟩ n (List.replicate n lk0) [] = [] ∧ rcvK true ⟨#[]⟩ n (List.replicate n lk0) = List.replicate n lk0 ∧ rcvN true ⟨#[]⟩ n (List.replicate n lk0) 0 = 0 ∧ rcvI true ⟨#[]⟩ n (List.replicate n lk0) = 0 ∧ rcvC true ⟨#[]⟩ n (List.replicate n lk0) = 3 := by
  have h := rcv_read (s := ⟨#[]⟩) (de := n) (K := List.replicate n lk0) (E := []) (ac := 0) (by rw [none_fact]; rfl)
  rw [none_fact] at h
  exact h
theorem two_c : rcvE true (farS.extract 0 10 ++ ⟨#[120]⟩) n (List.replicate n lk0) [] = [] ∧ rcvK true (farS.extract 0 10 ++ ⟨#[120]⟩) n (List.replicate n lk0) = List.replicate n lk0 ∧ rcvN true (farS.extract 0 10 ++ ⟨#[120]⟩) n (List.replicate n lk0) 0 = 0 ∧ rcvI true (farS.extract 0 10 ++ ⟨#[120]⟩) n (List.replicate n lk0) = 0 ∧ rcvC true (farS.extract 0 10 ++ ⟨#[120]⟩) n (List.replicate n lk0) = 4 := by
  have h := rcv_read (s := farS.extract 0 10 ++ ⟨#[120]⟩) (de := n) (K := List.replicate n lk0) (E := []) (ac := 0) (by rw [far_fact.2.2.2.1]; rfl)
  rw [far_fact.2.2.2.1] at h
  exact h
theorem three_c (hn : n ≤ 3) : rcvE true farS n (List.replicate n lk0) [] = [] ∧ rcvK true farS n (List.replicate n lk0) = List.replicate n lk0 ∧ rcvN true farS n (List.replicate n lk0) 0 = 0 ∧ rcvI true farS n (List.replicate n lk0) = 0 ∧ rcvC true farS n (List.replicate n lk0) = 7 :=
  rcv_dev far_fact.2.1 (by rw [far_fact.2.2.1]; exact lt_yes (by omega))
theorem four_c (hn : 1 ≤ n) : rcvE true oddS n (List.replicate n lk0) [] = [] ∧ rcvK true oddS n (List.replicate n lk0) = List.replicate n lk0 ∧ rcvN true oddS n (List.replicate n lk0) 0 = 0 ∧ rcvI true oddS n (List.replicate n lk0) = 0 ∧ rcvC true oddS n (List.replicate n lk0) = 8 :=
  rcv_odd odd_fact.2.1 (by rw [odd_fact.2.2.1]; exact lt_no (by omega)) odd_fact.2.2.2
theorem five_c (hn : 1 ≤ n) : rcvE true nearS n (List.replicate n lk0) [] = [] ∧ rcvK true nearS n (List.replicate n lk0) = List.replicate n lk0 ∧ rcvN true nearS n (List.replicate n lk0) 0 = 0 ∧ rcvI true nearS n (List.replicate n lk0) = 0 ∧ rcvC true nearS n (List.replicate n lk0) = 9 :=
  rcv_stale near_fact.2.1 (by rw [near_fact.2.2.1]; exact lt_no (by omega)) near_fact.2.2.2 (.inr rfl) (by
    obtain ⟨m, rfl⟩ : ∃ m, n = m + 1 := ⟨n - 1, by omega⟩
    unfold rcvA
    rw [near_fact.2.2.1]
    show ansId lk0 _ _ = 0
    unfold ansId Lnk.ansI Lnk.ansB
    simp [lk0, Lnk.idOf, Lnk.goneL])
theorem su_c {qu : Int} : subC true 0 n 0 0 0 1000 0 qu 0 0 [] = 3 := by
  have h1 : inB 1 (n : Int) 0 = false := by unfold inB; simp
  unfold subC
  rw [h1]
  rfl
theorem sv_c {qu : Int} (hn : 1 ≤ n) : subC true 0 n 1 0 0 1000 0 qu 0 0 [] = 4 := by
  have h1 : inB 1 (n : Int) 1 = true := by unfold inB; simp; omega
  unfold subC
  rw [h1]
  rfl
theorem sw_c {qu : Int} (hn : 1 ≤ n) : subC true 0 n 1 1 0 1000 0 qu 0 0 [] = 6 := by
  have h1 : inB 1 (n : Int) 1 = true := by unfold inB; simp; omega
  unfold subC
  rw [h1]
  rfl
theorem sx_c {qu : Int} (hn : 1 ≤ n) : subC true 0 n 1 1 0 1000 1001 qu 0 0 [] = 6 := by
  have h1 : inB 1 (n : Int) 1 = true := by unfold inB; simp; omega
  unfold subC
  rw [h1]
  rfl
end

end Go.Proofs.YtkndpkingmemoaaGreatDoor.Gat
