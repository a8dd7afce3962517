/-
  The walk of the program's Answer.
  A link's list that grows in a box; the walks of the specification's Forget, Answer and Late.
  The specification's functions on links, whatever the cap of what flies.
  The walk of the specification's Late.
  The specification's functions on links, whatever the cap of what flies.
-/
import Derived.Test.YtkndpkingmemoaaGreatDoorMgm
import Derived.Deep.RegionLaw
import Derived.Test.YtkndpkingmemoaaGreatDoorMgd
namespace Go.Proofs.YtkndpkingmemoaaGreatDoor.Lnk
open Go.RowKit
set_option linter.unusedVariables false

/-- what hands back a link and a number -/
def NumEnd (w w' : World) (up : Bool) (ep sq : Int) (l : List Y) (n : Int) (e : Ending) : Prop :=
  (∃ a cap, e = .returned (.tuple #[.agg #[.bool up, .int .i64 ep, .int .i64 sq, .slice a l.length cap], .int .i64 n]) ∧ YOwn w.heap.size w' 95 (.slice a l.length cap) l) ∧ Below w.heap.size w w'

theorem head_at : ∀ (m : List Int) (h : 0 < m.length), m[0] = m.headD 0
  | [], h => by simp at h
  | t :: r, _ => rfl
theorem gone_head {l : List Y} {seq : Int} (h : 0 < (idsL (goneL (isS seq) l)).length) : (idsL (goneL (isS seq) l))[0] = idOf l seq := head_at _ h

set_option maxRecDepth 100000 in
set_option maxHeartbeats 1000000 in
theorem answer_any (w : World) (a : Option Addr) (len cap : Nat) (up : Bool) (ep sq : Int) (l : List Y) (e seq : Int) (h : YIs w.heap.size w a len l) (hlen : len ≤ 1048576) :
    Calls Tryz.prog 181 #[.agg #[.bool up, .int .i64 ep, .int .i64 sq, .slice a len cap], .int .i64 e, .int .i64 seq] w fun en w' => NumEnd w w' up ep sq (ansL up ep sq l e seq) (ansI up ep sq l e seq) en := by
  have hmf : ∀ (fn : Fn) (first cap : Array Value) (w : World), (Instr.makeFunc fn first cap).run Tryz.prog w = .ok (.func fn first cap) w := fun _ _ _ _ => rfl
  have hf := Fr2.three w up ep sq seq a len cap l h 82 82 3
  have HF := Lib.hid hf.1
  have HI := Lib.hid hf.2
  clear h hf
  go_enter Tryz.func181, Tryz.ntmps181
  go_wp2_with fail
  refine (linkOk_any _ a len cap up ep sq l HF.out.here).mono ?_
  rintro en w3 ⟨rfl, hb3⟩
  have HF3 := Lib.hid (HF.out.step hb3)
  have HI3 := Lib.hid (HI.out.below hb3)
  clear hb3 HF HI
  obtain ⟨⟨c0, c1, c2, c3⟩, ⟨d0, d1, d2, d3⟩, ⟨f0, f1, f2, f3⟩, g3⟩ := HF3.out.cells
  by_cases hj : LOk up ep sq l ∧ e = ep
  · have HJ := Lib.hid (show ansB up ep sq l e = true by unfold ansB; rw [lokB_true hj.1]; simp [hj.2])
    rw [lokB_true hj.1]
    have hb1 : (e != ep) = false := by simp [hj.2]
    clear hj
    go_wp2_with fail
    refine (land_any 197 ⟨w.heap.size + 1, 0, none⟩ (isS seq) _ a len cap up ep sq l HF3.out.here hlen enters_S (fun w1 x y z hb => call_S _ seq w1 x y z (HI3.out.below hb).c (HI3.out.below hb).lt)).mono ?_
    rintro en w4 ⟨⟨a1, cap1, a2, cap2, rfl, ho4, hi4⟩, hb4⟩
    obtain ⟨n2, hn2⟩ : ∃ n, n = (idsL (goneL (isS seq) l)).length := ⟨_, rfl⟩
    obtain ⟨n1, hn1⟩ : ∃ n, n = (stayL (isS seq) l).length := ⟨_, rfl⟩
    rw [← hn2] at hi4 ⊢
    rw [← hn1] at ho4 ⊢
    have hb5 := bOne w4 (.cells #[.bool up, .int .i64 ep, .int .i64 sq, .slice a1 n1 cap1] 82)
    have HF5 := Lib.hid ((HF3.out.step hb4).step hb5)
    have HE := Lib.hid (fun x0 x1 x2 x3 => HF5.out.end_ (ho4.below hb5) HF3.out.b1.lt x0 x1 x2 x3)
    have HN := Lib.hid (B4.new w4 up ep sq (.slice a1 n1 cap1) 82)
    have HI5 := Lib.hid (hi4.below hb5)
    have HR := Lib.hid (show w.heap.size + 1 + 1 < w3.heap.size from HF3.out.b1.lt)
    have HR4 := Lib.hid (show w.heap.size + 1 + 1 < w4.heap.size from Nat.lt_of_lt_of_le HF3.out.b1.lt hb4.size)
    have HN1 := Lib.hid hn1
    have HN2 := Lib.hid hn2
    clear hb4 hb5 ho4 hi4 hn1 hn2 c0 c1 c2 c3 d0 d1 d2 d3 f0 f1 f2 f3 g3
    obtain ⟨⟨c0, c1, c2, c3⟩, ⟨d0, d1, d2, d3⟩, ⟨f0, f1, f2, f3⟩, g3⟩ := HF5.out.cells
    by_cases h0 : n2 = 0
    · have HG := Lib.hid (show idOf l seq = 0 from idOf_none (List.eq_nil_of_length_eq_zero (by have := HN2.out; simp [idsL] at this; omega)))
      subst h0
      go_wp2_with fail
      refine bodyPost_ret (v := .tuple #[.agg #[.bool up, .int .i64 ep, .int .i64 sq, .slice a1 n1 cap1], .int .i64 0]) (by simp [results, Tryz.results181, go_sem, d0, d1, d2, d3]) rfl ?_
      unfold ansL ansI
      rw [HJ.out, if_pos rfl, if_pos rfl, HG.out]
      refine ⟨⟨a1, cap1, by rw [HN1.out], ?_⟩, (HE.out _ _ _ _).2⟩
      rw [← HN1.out]
      exact (HE.out _ _ _ _).1
    · have hp : 0 < n2 := by omega
      have hp2 : (0 : Int) < (n2 : Int) := by omega
      have hb2 : ((n2 : Int) == 0) = false := by simp; omega
      have hpl : 0 < (idsL (goneL (isS seq) l)).length := by have := HN2.out; omega
      obtain ⟨g, cp, cur, hv, hbg, hlg⟩ : ∃ g cp cur, (Value.slice a2 n2 cap2) = .slice (some ⟨g, 0, none⟩) n2 cp ∧ w3.heap.size ≤ g ∧ cur = g := by
        rcases HI5.out.2 with ⟨e1, h1⟩ | ⟨g, c, cur, e1, hbb, hg, _⟩
        · simp only [Value.slice.injEq] at e1; omega
        · simp only [Value.slice.injEq] at e1
          exact ⟨g, cap2, g, by rw [e1.1], hbb, rfl⟩
      simp only [Value.slice.injEq] at hv
      obtain ⟨rfl, _, rfl⟩ := hv
      have ci := (HI5.out.cellAt 0 hpl).1
      rw [gone_head hpl] at ci
      have hne : g ≠ w.heap.size + 1 + 1 := by have := HR.out; omega
      have hgl : g < (w4.alloc (.cells #[.bool up, .int .i64 ep, .int .i64 sq, .slice a1 n1 cap1] 82)).heap.size := (World.ownsRow.lt HI5.out g rfl).2
      obtain ⟨q, hq⟩ : ∃ q, q = idOf l seq := ⟨_, rfl⟩
      rw [← hq] at ci
      have HQ := Lib.hid hq
      have hkl := HR4.out
      clear h0 hlg hq hpl
      go_wp2_with fail
      obtain ⟨n0, n1', n2', n3', nl⟩ := HN.out.cells
      obtain ⟨w5, hw5⟩ : ∃ w5, w5 = w4.alloc (.cells #[.bool up, .int .i64 ep, .int .i64 sq, .slice a1 n1 cap1] 82) := ⟨_, rfl⟩
      rw [← hw5] at HF5 HE HN HI5 c0 c1 c2 c3 d0 d1 d2 d3 f0 f1 f2 f3 g3 n0 n1' n2' n3' nl ci hgl ⊢
      clear hw5
      go_region
      all_goals
        go_wp2_with fail
        refine bodyPost_ret (v := .tuple #[.agg #[.bool up, .int .i64 ep, .int .i64 sq, .slice a1 n1 cap1], .int .i64 q]) (by simp [results, Tryz.results181, go_sem, d0, d1, d2, d3]) rfl ?_
        unfold ansL ansI
        rw [HJ.out, if_pos rfl, if_pos rfl, ← HQ.out]
        refine ⟨⟨a1, cap1, by rw [HN1.out], ?_⟩, below_drew' (HE.out _ _ _ _).2⟩
        rw [← HN1.out]
        exact (HE.out _ _ _ _).1.drew'
  · have HJ := Lib.hid (show ansB up ep sq l e = false by
      unfold ansB
      by_cases h1 : LOk up ep sq l
      · have : ¬ e = ep := fun h => hj ⟨h1, h⟩
        simp [this]
      · rw [lokB_false h1]; rfl)
    have hq : lokB up ep sq l = false ∨ (lokB up ep sq l = true ∧ (e != ep) = true) := by
      by_cases h1 : LOk up ep sq l
      · exact .inr ⟨lokB_true h1, by simp; exact fun h => hj ⟨h1, h⟩⟩
      · exact .inl (lokB_false h1)
    clear hj
    rcases hq with hq | ⟨hq, hb1⟩
    all_goals
      rw [hq]
      clear hq
      go_wp2_with fail
      refine (copyLink_any _ a len cap up ep sq l HF3.out.here hlen).mono ?_
      rintro en w4 ⟨⟨a1, cap1, rfl, ho4⟩, hb4⟩
      have HF4 := Lib.hid (HF3.out.step hb4)
      have HE := Lib.hid (fun x0 x1 x2 x3 => HF4.out.end_ ho4 HF3.out.b1.lt x0 x1 x2 x3)
      clear hb4 ho4 c0 c1 c2 c3 d0 d1 d2 d3 f0 f1 f2 f3 g3
      obtain ⟨⟨c0, c1, c2, c3⟩, ⟨d0, d1, d2, d3⟩, ⟨f0, f1, f2, f3⟩, g3⟩ := HF4.out.cells
      go_wp2_with fail
      refine bodyPost_ret (v := .tuple #[.agg #[.bool up, .int .i64 ep, .int .i64 sq, .slice a1 l.length cap1], .int .i64 0]) (by simp [results, Tryz.results181, go_sem, d0, d1, d2, d3]) rfl ?_
      unfold ansL ansI
      rw [HJ.out]
      exact ⟨⟨a1, cap1, rfl, (HE.out _ _ _ _).1⟩, (HE.out _ _ _ _).2⟩
end Go.Proofs.YtkndpkingmemoaaGreatDoor.Lnk
namespace Go.Proofs.YtkndpkingmemoaaGreatDoor.Lnk
open Go.RowKit
open Go.Proofs.YtkndpkingmemoaaGreatDoor.Kit (append_one)
set_option linter.unusedVariables false

theorem setCell_grown (w : World) (o k : Nat) (v : Value) : w.grownBy (w.setCell ⟨o, k, none⟩ v) (some o) :=
  ⟨rfl, rfl, rfl, by simp, fun j _ hj => heap_setCell_other w ⟨o, k, none⟩ j v (fun e => hj (by simp [e]))⟩
/-- a link in a box at o, whose list is of the call's own -/
structure G4 (w : World) (o : Nat) (up : Bool) (ep sq : Int) (v : Value) (S : List Y) : Prop where
  box : B4 w o up ep sq v
  fro : Fr w o
  own : YOwn o w 95 v S
  ne : v.ownBlock ≠ some o
section
variable {w w1 w2 : World} {o : Nat} {up : Bool} {ep sq : Int} {v v' : Value} {S S' : List Y}
theorem G4.below (h : G4 w o up ep sq v S) (hb : Below w.heap.size w w1) : G4 w1 o up ep sq v S := ⟨h.box.below hb, h.fro.low hb h.box.lt, h.own.below hb, h.ne⟩
theorem G4.grown {r : Option Nat} (h : G4 w o up ep sq v S) (hg : w.grownBy w1 r) (hne : r ≠ some o) (hv : v.ownBlock = none ∨ v.ownBlock ≠ r) : G4 w1 o up ep sq v S := ⟨h.box.grown hg hne, h.fro.grown h.box.lt hg hne, h.own.grown hg hv, h.ne⟩
theorem G4.cells (h : G4 w o up ep sq v S) : (w.cell? ⟨o, 0, none⟩ = some (.bool up) ∧ w.cell? ⟨o, 1, none⟩ = some (.int .i64 ep) ∧ w.cell? ⟨o, 2, none⟩ = some (.int .i64 sq) ∧ w.cell? ⟨o, 3, none⟩ = some v) ∧ w.frozen? ⟨o, 3, none⟩ = false ∧ o < w.heap.size := ⟨⟨h.box.c0, h.box.c1, h.box.c2, h.box.c3⟩, h.fro 3, h.box.lt⟩
/-- behind an append, ahead of the store -/
theorem G4.at_ (h : G4 w o up ep sq v S) (hb : Below w.heap.size w w1) (ha : AppY o w1 v S' v' w2) : B4 w2 o up ep sq v ∧ Fr w2 o ∧ (v'.ownBlock ≠ some o) := by
  have h1 := h.below hb
  have hg := ha.2.1
  refine ⟨h1.box.grown hg h.ne, h1.fro.grown h1.box.lt hg h.ne, ?_⟩
  rcases ha.2.2 with e | e
  · rw [e]; exact h.ne
  · rw [e]
    have := h1.box.lt
    simp
    omega
theorem G4.app (h : G4 w o up ep sq v S) (hb : Below w.heap.size w w1) (ha : AppY o w1 v S' v' w2) : G4 (w2.setCell ⟨o, 3, none⟩ v') o up ep sq v' S' ∧ Below o w (w2.setCell ⟨o, 3, none⟩ v') := by
  obtain ⟨h1, h2, h3⟩ := h.at_ hb ha
  have hBw : o ≤ w.heap.size := Nat.le_of_lt h.box.lt
  refine ⟨⟨h1.set3 v', h2.set _ _, ha.1.grown (setCell_grown w2 o 3 v') (.inr h3), h3⟩, ?_⟩
  exact (ha.below (hb.mono hBw) hBw (fun k hk => (World.ownsRow.lt h.own k hk).1)).setCell (by simp) _
end
end Go.Proofs.YtkndpkingmemoaaGreatDoor.Lnk
namespace Go.Proofs.YtkndpkingmemoaaGreatDoor.Lnk
open Go.RowKit
open Go.Proofs.YtkndpkingmemoaaGreatDoor.Kit (append_one)
set_option linter.unusedVariables false

end Go.Proofs.YtkndpkingmemoaaGreatDoor.Lnk
namespace Go.Proofs.YtkndpkingmemoaaGreatDoor.Lnk
open Go.RowKit
open Go.Proofs.YtkndpkingmemoaaGreatDoor.Kit (append_one)
set_option linter.unusedVariables false

end Go.Proofs.YtkndpkingmemoaaGreatDoor.Lnk
namespace Go.Proofs.YtkndpkingmemoaaGreatDoor.Lnk
open Go.RowKit
open Go.Proofs.YtkndpkingmemoaaGreatDoor.Kit (append_one)
set_option linter.unusedVariables false

end Go.Proofs.YtkndpkingmemoaaGreatDoor.Lnk
