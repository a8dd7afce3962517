/-
  The walk of the program's readFrame, which panics with the code where a text can't be read.
  The walks of the deferred closure that recovers the code, and of GetFrame; the walk of the law FnExactGetFrame.
  readFor; the map of what is done of each kind of frame.
-/
import Derived.Test.YtkndpkingmemoaaGreatDoorMgq
import Derived.Test.YtkndpkingmemoaaGreatDoorShelf
import Derived.Defers
import Derived.Recover
import Derived.Test.YtkndpkingmemoaaGreatDoorMgt
import Derived.Test.YtkndpkingmemoaaGreatDoorMgr
import Derived.MapKept
namespace Go.Proofs.YtkndpkingmemoaaGreatDoor.Frm
open Go.RowKit Go.Proofs.YtkndpkingmemoaaGreatDoor.Num
set_option linter.unusedVariables false

theorem clone_any (s : ByteArray) (w : World) (hlim : s.size ≤ 281474976710656) :
    Calls Tryz.prog 179 #[.string s] w fun e w' => e = .returned (.string s) ∧ Below w.heap.size w w' := by
  go_enter Tryz.func179, Tryz.ntmps179
  go_wp2_with fail
  refine (Tryz.stringslite_Clone s _ hlim).mono ?_
  rintro e w1 ⟨rfl, hb1⟩
  go_wp2_with fail
  go_ret
  exact ⟨rfl, hb1⟩
/-- the panic that tells a code -/
def told (c : Int) : Ending := .panicked [{ v := .iface 212 (.int .i64 c), recovered := false }]
/-- what readFrame does -/
def RdE (s : ByteArray) (en : Ending) : Prop :=
  (gcode s = 0 ∧ en = .returned (.agg #[.int .i64 (gK s), .int .i64 (gD s), .int .i64 (gE s), .int .i64 (gS s), .int .i64 (gI s), .string (gB s (s.size - 2))])) ∨ (gcode s ≠ 0 ∧ en = told (gcode s))
/-- a new box of noughts, behind what lies below it stays -/
theorem zero_kept0 {X wC : World} {k : Nat} {ty : TypeId} (h : Below X.heap.size X wC) (hX : X.heap[k]? = some (.cells #[.int .i64 0, .int .i64 0, .int .i64 0, .int .i64 0, .int .i64 0, .string ⟨#[]⟩] ty (0, 0))) :
    B6 wC k 0 0 0 0 0 ⟨#[]⟩ ∧ ∀ j, wC.frozen? ⟨k, j, none⟩ = false := by
  have hC := (h.block k (at_lt hX)).trans hX
  exact ⟨B6.at hC, fun j => by simp [World.frozen?, hC]⟩

theorem zero_kept {W wC : World} (h : Below (W.alloc (.cells #[.int .i64 0, .int .i64 0, .int .i64 0, .int .i64 0, .int .i64 0, .string ⟨#[]⟩] 51)).drew.heap.size (W.alloc (.cells #[.int .i64 0, .int .i64 0, .int .i64 0, .int .i64 0, .int .i64 0, .string ⟨#[]⟩] 51)).drew wC) :
    B6 wC W.heap.size 0 0 0 0 0 ⟨#[]⟩ ∧ ∀ j, wC.frozen? ⟨W.heap.size, j, none⟩ = false := zero_kept0 h (heap_alloc_new W _)

set_option maxRecDepth 100000 in
theorem read_short (s : ByteArray) (w : World) (h : s.size < 11) :
    Calls Tryz.prog 164 #[.string s] w fun en w' => en = told 1 ∧ Below w.heap.size w w' := by
  have hlt : (s.size : Int) < 11 := by omega
  go_enter Tryz.func164, Tryz.ntmps164
  go_wp2_with fail
  exact ⟨rfl, rfl, bOne _ _⟩

set_option maxRecDepth 100000 in
set_option maxHeartbeats 3000000 in
theorem read_long (s : ByteArray) (m : Nat) (w : World) (hm : s.size = m + 2) (h : ¬ s.size < 11) (hs : s.size ≤ 281474976710656) :
    Calls Tryz.prog 164 #[.string s] w fun en w' => RdE s en ∧ Below w.heap.size w w' := by
  have hw : IntKind.i64.wrap ((s.size : Int) - 2) = (m : Int) := by rw [hm]; rw [IntWalk.i64_in _ (by omega)]; omega
  have hge : ¬ ((s.size : Int) < 11) := by omega
  have hge3 : ¬ ((m : Int) + 2 < 11) := by omega
  have hge4 : ¬ (m + 2 < 11) := by omega
  have hge2 : 9 ≤ (m : Int) := by omega
  have hle : (m : Int) ≤ (s.size : Int) := by omega
  have h0 : (0 : Int) ≤ (m : Int) := by omega
  have h9 : 9 ≤ m := by omega
  have hsl := slice_9 s m h9 (by omega)
  go_enter Tryz.func164, Tryz.ntmps164
  go_wp2_with fail
  go_quiet (first | exact (getNum_any _ _ _ _ (by unfold maxLen; omega)).mono fun _ _ h => ⟨h.1, _, h.2.symm⟩ | exact (check_any _ _ (by unfold maxLen; simp; omega)).mono fun _ _ h => ⟨h.1, _, h.2.symm⟩)
  have HB0 := Lib.hid (B6.new w 0 0 0 0 0 ⟨#[]⟩ 51)
  have HLW := Lib.hid (low_drewN (bOne w (.cells #[.int .i64 0, .int .i64 0, .int .i64 0, .int .i64 0, .int .i64 0, .string ⟨#[]⟩] 51)) nq)
  have HBW := Lib.hid (HB0.out.below (low_drewN (Below.refl _ _) nq))
  have HFW := Lib.hid (show ∀ j, ((w.alloc (.cells #[.int .i64 0, .int .i64 0, .int .i64 0, .int .i64 0, .int .i64 0, .string ⟨#[]⟩] 51)).drewN nq).frozen? ⟨w.heap.size, j, none⟩ = false from fun j => by simp [go_sem])
  obtain ⟨W, hW⟩ : ∃ W, W = (w.alloc (.cells #[.int .i64 0, .int .i64 0, .int .i64 0, .int .i64 0, .int .i64 0, .string ⟨#[]⟩] 51)).drewN nq := ⟨_, rfl⟩
  rw [← hW] at HLW HBW HFW ⊢
  clear hW HB0
  have f0 := HFW.out 0
  have f1 := HFW.out 1
  have f2 := HFW.out 2
  have f3 := HFW.out 3
  have f4 := HFW.out 4
  have f5 := HFW.out 5
  obtain ⟨c0, c1, c2, c3, c4, c5, hlt⟩ := HBW.out
  by_cases hsum : sumOk s m
  · have hne : (gnVal s (m : Int) 2 != ckVal (List.take m s.data.toList)) = false := by unfold sumOk at hsum; simp [hsum]
    have HSUM := Lib.hid hsum
    clear hsum
    go_upto_region 6 with fail
    go_cut [4] (fun s4 wx => ∃ kb, s4 = .pointer (some ⟨kb, 0, none⟩) ∧ W.heap.size ≤ kb ∧ Hid (B6 wx kb (gnVal s 0 1) (gnVal s 1 1) (gnVal s 2 2) (gnVal s 4 2) (gnVal s 6 2) (s.extract 9 m)) ∧ Hid (Below W.heap.size W wx))
    case first =>
      go_region_held3 (fun w' => Below W.heap.size W w')
        (first
          | with_reducible assumption
          | with_reducible exact HLC.out
          | with_reducible exact low_drew (Below.refl _ _)
          | with_reducible exact low_alloc HLC.out _
          | with_reducible exact low_drew (low_alloc (Below.refl _ _) _)
          | with_reducible exact low_drew (low_alloc HLC.out _)
          | with_reducible exact six_low HLC.out (Nat.le_refl _) _ _ _ _ _ _
          | with_reducible exact low_drew (six_low HLC.out (Nat.le_refl _) _ _ _ _ _ _))
        (first
          | (go_at_call 177; (with_reducible refine (getNum_any s 0 1 _ (by unfold maxLen; omega)).mono ?_); rintro e wX ⟨rfl, rfl⟩)
          | (go_at_call 177; (with_reducible refine (getNum_any s 1 1 _ (by unfold maxLen; omega)).mono ?_); rintro e wX ⟨rfl, rfl⟩)
          | (go_at_call 177; (with_reducible refine (getNum_any s 2 2 _ (by unfold maxLen; omega)).mono ?_); rintro e wX ⟨rfl, rfl⟩)
          | (go_at_call 177; (with_reducible refine (getNum_any s 4 2 _ (by unfold maxLen; omega)).mono ?_); rintro e wX ⟨rfl, rfl⟩)
          | (go_at_call 177; (with_reducible refine (getNum_any s 6 2 _ (by unfold maxLen; omega)).mono ?_); rintro e wX ⟨rfl, rfl⟩)
          | (go_at_call 179; (with_reducible refine (clone_any (s.extract 9 m) _ (by rw [ext_size s 9 m (by omega)]; omega)).mono ?_); rintro e wC ⟨rfl, hbC⟩; (first | ((with_reducible have hz := zero_kept (W := W) hbC); have HLC := Lib.hid (low_after (low_drew (bOne W _)) hbC); clear hbC; have HZ := Lib.hid hz.1; obtain ⟨z0, z1, z2, z3, z4, z5, zl⟩ := hz.1; have g0 := hz.2 0; have g1 := hz.2 1; have g2 := hz.2 2; have g3 := hz.2 3; have g4 := hz.2 4; have g5 := hz.2 5; clear hz) | (have HLC := Lib.hid (low_after (low_drew (Below.refl W.heap.size W)) hbC); clear hbC)))
      )
      all_goals
        go_wp2_with fail
        go_meet
        first
          | exact ⟨_, rfl, HLC.out.size, Lib.hid (B6.new _ _ _ _ _ _ _ _), Lib.hid (low_alloc HLC.out _)⟩
          | exact ⟨_, rfl, HLC.out.size, Lib.hid ((B6.new _ _ _ _ _ _ _ _).below (low_drew (Below.refl _ _))), Lib.hid (low_drew (low_alloc HLC.out _))⟩
          | exact ⟨_, rfl, Nat.le_refl _, Lib.hid (six_set HZ.out _ _ _ _ _ _), Lib.hid (six_low HLC.out (Nat.le_refl _) _ _ _ _ _ _)⟩
    case rest =>
      obtain ⟨kb, rfl, hkb, HB4, HL4⟩ := hcut
      obtain ⟨b, hbody⟩ : ∃ b, b = s.extract 9 m := ⟨_, rfl⟩
      obtain ⟨k, hk⟩ : ∃ k, k = gnVal s 0 1 := ⟨_, rfl⟩
      obtain ⟨d, hd⟩ : ∃ d, d = gnVal s 1 1 := ⟨_, rfl⟩
      obtain ⟨e, he⟩ : ∃ e, e = gnVal s 2 2 := ⟨_, rfl⟩
      obtain ⟨sq, hsq⟩ : ∃ sq, sq = gnVal s 4 2 := ⟨_, rfl⟩
      obtain ⟨i, hi⟩ : ∃ i, i = gnVal s 6 2 := ⟨_, rfl⟩
      have hbl : b.size ≤ maxLen := by rw [hbody, ext_size s 9 m (by omega)]; unfold maxLen; omega
      have HGP := Lib.hid (show gP s m = putF k d e sq i b.data.toList by rw [gP, hk, hd, he, hsq, hi, hbody]; rfl)
      have HRS := Lib.hid (show (Value.agg #[.int .i64 (gK s), .int .i64 (gD s), .int .i64 (gE s), .int .i64 (gS s), .int .i64 (gI s), .string (gB s (s.size - 2))]) = .agg #[.int .i64 k, .int .i64 d, .int .i64 e, .int .i64 sq, .int .i64 i, .string b] by rw [hk, hd, he, hsq, hi, hbody, show s.size - 2 = m by omega]; rfl)
      rw [← hbody, ← hk, ← hd, ← he, ← hsq, ← hi] at HB4
      clear hbody hk hd he hsq hi
      obtain ⟨d0, d1, d2, d3, d4, d5, hlt2⟩ := HB4.out
      go_wp2_with fail
      refine (implPut_any k d e sq i b _ hbl).mono ?_
      rintro en w5 ⟨rfl, hb5⟩
      obtain ⟨p, hp⟩ : ∃ p, p = putF k d e sq i b.data.toList := ⟨_, rfl⟩
      rw [← hp]
      rw [← hp] at HGP
      clear hp
      have HL5 := Lib.hid (low_after HL4.out hb5)
      have HB5 := Lib.hid (HB4.out.below hb5)
      have HR5 := Lib.hid (HBW.out.below HL5.out)
      have HF5 := Lib.hid (show ∀ j, w5.frozen? ⟨w.heap.size, j, none⟩ = false from fun j => (World.frozen?_of_block (HL5.out.block _ HBW.out.lt)).trans (HFW.out j))
      clear hb5 HL4 HB4 d0 d1 d2 d3 d4 d5 hlt2 f0 f1 f2 f3 f4 f5 c0 c1 c2 c3 c4 c5 hlt
      have f0 := HF5.out 0
      have f1 := HF5.out 1
      have f2 := HF5.out 2
      have f3 := HF5.out 3
      have f4 := HF5.out 4
      have f5 := HF5.out 5
      obtain ⟨c0, c1, c2, c3, c4, c5, hlt⟩ := HR5.out
      obtain ⟨d0, d1, d2, d3, d4, d5, hlt2⟩ := HB5.out
      by_cases hform : p = s.data.toList
      · have heq : (p == s.toList) = true := by rw [Lib.toList_data]; simp [hform]
        have hcode := gcode_ok hm h HSUM.out (HGP.out.trans hform)
        go_wp2_with fail
        have HX := six_set HR5.out k d e sq i b
        have HXL := six_low (bAfter HLW.out HL5.out HLW.out.size) (Nat.le_refl _) k d e sq i b
        obtain ⟨X, hX⟩ : ∃ X, X = ((((((w5.setCell ⟨w.heap.size, 0, none⟩ (.int .i64 k)).setCell ⟨w.heap.size, 1, none⟩ (.int .i64 d)).setCell ⟨w.heap.size, 2, none⟩ (.int .i64 e)).setCell ⟨w.heap.size, 3, none⟩ (.int .i64 sq)).setCell ⟨w.heap.size, 4, none⟩ (.int .i64 i)).setCell ⟨w.heap.size, 5, none⟩ (.string b)) := ⟨_, rfl⟩
        rw [← hX] at HX HXL ⊢
        obtain ⟨x0, x1, x2, x3, x4, x5, hlx⟩ := HX
        refine bodyPost_ret (v := .agg #[.int .i64 k, .int .i64 d, .int .i64 e, .int .i64 sq, .int .i64 i, .string b]) (by simp [results, Tryz.results164, go_sem, x0, x1, x2, x3, x4, x5]) rfl ⟨.inl ⟨hcode, by rw [HRS.out]⟩, HXL⟩
      · have heq : (p == s.toList) = false := by rw [Lib.toList_data]; simp [hform]
        have hcode := gcode_form hm h HSUM.out (fun x => hform (HGP.out.symm.trans x))
        go_wp2_with fail
        exact ⟨rfl, .inr ⟨by omega, by rw [hcode]; rfl⟩, bAfter HLW.out HL5.out HLW.out.size⟩
  · have hne : (gnVal s (m : Int) 2 != ckVal (List.take m s.data.toList)) = true := by unfold sumOk at hsum; simp [hsum]
    have hcode := gcode_sum hm h hsum
    go_wp2_with fail
    exact ⟨rfl, .inr ⟨by omega, by rw [hcode]; rfl⟩, HLW.out⟩

theorem read_any (s : ByteArray) (w : World) (hs : s.size ≤ 281474976710656) :
    Calls Tryz.prog 164 #[.string s] w fun en w' => RdE s en ∧ Below w.heap.size w w' := by
  by_cases h : s.size < 11
  · exact (read_short s w h).mono fun en w' ⟨he, hb⟩ => ⟨.inr ⟨by rw [gcode_short h]; decide, by rw [he, gcode_short h]⟩, hb⟩
  · obtain ⟨m, hm⟩ : ∃ m, s.size = m + 2 := ⟨s.size - 2, by omega⟩
    exact read_long s m w hm h hs
end Go.Proofs.YtkndpkingmemoaaGreatDoor.Frm
namespace Go.Proofs.YtkndpkingmemoaaGreatDoor.Frm
open Go.RowKit Go.Proofs.YtkndpkingmemoaaGreatDoor.Num
set_option linter.unusedVariables false

theorem assert_is (c : Int) (w : World) : (Instr.typeAssert (.iface 212 (.int .i64 c)) 20 212 true).run Tryz.prog w = .ok (.tuple #[.int .i64 c, .bool true]) w := by kernel_rfl
theorem assert_no (w : World) : (Instr.typeAssert .nilIface 20 212 true).run Tryz.prog w = .ok (.tuple #[.int .i64 0, .bool false]) w := by kernel_rfl

/-- the deferred closure, of a frame that panics with a code -/
theorem catch_told (p : Addr) (x c : Int) (older : List PanicEntry) (w : World) (hc : w.cell? p = some (.int .i64 x)) (hz : w.frozen? p = false) :
    CallsD Tryz.prog 163 #[.pointer (some p)] (.panicking ({ v := .iface 212 (.int .i64 c), recovered := false } :: older)) w fun e u' w' =>
      e = .returned (.tuple #[]) ∧ u' = .panicking ({ v := .iface 212 (.int .i64 c), recovered := true } :: older) ∧ w' = w.setCell p (.int .i64 c) := by
  refine callsD_of_wpS Tryz.func163 rfl fun c₀ cs hu => ?_
  have ha := assert_is c
  apply wpS_seq
  apply wpS_region
  simp [wpOpsS, go_sem, recoverD, hu, ha, Tryz.ntmps163, Exit.thenS]
  apply wpS_seq
  apply wpS_region
  simp [wpOpsS, go_sem, Exit.thenS]
  refine wpS_cond (t := true) (by simp [Act.eval, Array.replicate]) ?_
  simp only [if_true]
  apply wpS_region
  simp [wpOpsS, go_sem, hc, hz, bodyPostS, results, Tryz.results163]
theorem catch_idle (p : Addr) (w : World) :
    CallsD Tryz.prog 163 #[.pointer (some p)] .returning w fun e u' w' => e = .returned (.tuple #[]) ∧ u' = .returning ∧ w' = w := by
  refine callsD_of_wpS Tryz.func163 rfl fun c₀ cs hu => ?_
  have ha := assert_no
  apply wpS_seq
  apply wpS_region
  simp [wpOpsS, go_sem, recoverD, hu, ha, Tryz.ntmps163, Exit.thenS]
  apply wpS_seq
  apply wpS_region
  simp [wpOpsS, go_sem, Exit.thenS]
  refine wpS_cond (t := false) (by simp [Act.eval, Array.replicate]) ?_
  simp only [Bool.false_eq_true, if_false]
  refine wpS_of_wp (wp_skip ?_)
  cases c₀
  simp_all [bodyPostS, results, Tryz.results163]

theorem B6.set_other {w : World} {a : Nat} {k d e s i : Int} {b : ByteArray} (h : B6 w a k d e s i b) {p : Addr} (hp : p.block ≠ a) (v : Value) : B6 (w.setCell p v) a k d e s i b := by
  have hb : (w.setCell p v).heap[a]? = w.heap[a]? := heap_setCell_other w p a v (fun e => hp e.symm)
  exact ⟨(World.cell?_of_block (a := ⟨a, 0, none⟩) hb).trans h.c0, (World.cell?_of_block (a := ⟨a, 1, none⟩) hb).trans h.c1, (World.cell?_of_block (a := ⟨a, 2, none⟩) hb).trans h.c2, (World.cell?_of_block (a := ⟨a, 3, none⟩) hb).trans h.c3, (World.cell?_of_block (a := ⟨a, 4, none⟩) hb).trans h.c4, (World.cell?_of_block (a := ⟨a, 5, none⟩) hb).trans h.c5, by simpa using h.lt⟩
theorem one_six {w : World} {a c : Nat} (hne : c ≠ a) {x : Value} (h : w.cell? ⟨c, 0, none⟩ = some x) (v0 v1 v2 v3 v4 v5 : Value) :
    ((((((w.setCell ⟨a, 0, none⟩ v0).setCell ⟨a, 1, none⟩ v1).setCell ⟨a, 2, none⟩ v2).setCell ⟨a, 3, none⟩ v3).setCell ⟨a, 4, none⟩ v4).setCell ⟨a, 5, none⟩ v5).cell? ⟨c, 0, none⟩ = some x := by
  have g : ∀ (W : World) (j : Nat) (v : Value), (W.setCell ⟨a, j, none⟩ v).cell? ⟨c, 0, none⟩ = W.cell? ⟨c, 0, none⟩ := fun W j v => World.cell?_of_block (a := ⟨c, 0, none⟩) (heap_setCell_other W ⟨a, j, none⟩ c v hne)
  rw [g, g, g, g, g, g]
  exact h

set_option maxRecDepth 100000 in
set_option maxHeartbeats 1000000 in
theorem implGet_any (s : ByteArray) (w : World) (hs : s.size ≤ 281474976710656) :
    Calls Tryz.prog 145 #[.string s] w fun en w' => GotE s en ∧ Below w.heap.size w w' := by
  have hmf : ∀ (fn : Fn) (first cap : Array Value) (w : World), (Instr.makeFunc fn first cap).run Tryz.prog w = .ok (.func fn first cap) w := fun _ _ _ _ => rfl
  have HH0 := Lib.hid (show ((w.alloc (.cells #[.int .i64 0, .int .i64 0, .int .i64 0, .int .i64 0, .int .i64 0, .string ⟨#[]⟩] 51)).alloc (.cells #[.int .i64 0] 3)).heap[w.heap.size]? = some (.cells #[.int .i64 0, .int .i64 0, .int .i64 0, .int .i64 0, .int .i64 0, .string ⟨#[]⟩] 51 (0, 0)) from ((bOne (w.alloc (.cells #[.int .i64 0, .int .i64 0, .int .i64 0, .int .i64 0, .int .i64 0, .string ⟨#[]⟩] 51)) _).block _ (by simp)).trans (heap_alloc_new w _))
  have HC0 := Lib.hid (show ((w.alloc (.cells #[.int .i64 0, .int .i64 0, .int .i64 0, .int .i64 0, .int .i64 0, .string ⟨#[]⟩] 51)).alloc (.cells #[.int .i64 0] 3)).heap[w.heap.size + 1]? = some (.cells #[.int .i64 0] 3 (0, 0)) from by have := heap_alloc_new (w.alloc (.cells #[.int .i64 0, .int .i64 0, .int .i64 0, .int .i64 0, .int .i64 0, .string ⟨#[]⟩] 51)) (.cells #[.int .i64 0] 3); simpa using this)
  have HL0 := Lib.hid (show Below w.heap.size w ((w.alloc (.cells #[.int .i64 0, .int .i64 0, .int .i64 0, .int .i64 0, .int .i64 0, .string ⟨#[]⟩] 51)).alloc (.cells #[.int .i64 0] 3)) from low_alloc (bOne _ _) _)
  go_enter_defers Tryz.func145, Tryz.ntmps145
  go_wp2_with fail
  refine (read_any s _ hs).mono ?_
  rintro en w1 ⟨he, hb1⟩
  obtain ⟨hR, hFR⟩ := zero_kept0 hb1 HH0.out
  have hC := (hb1.block _ (at_lt HC0.out)).trans HC0.out
  have c6 : w1.cell? ⟨w.heap.size + 1, 0, none⟩ = some (.int .i64 0) := cell_of_row _ _ 0 _ 3 (0, 0) hC
  have f6 : w1.frozen? ⟨w.heap.size + 1, 0, none⟩ = false := by simp [World.frozen?, hC]
  have HL1 := Lib.hid (low_after HL0.out hb1)
  have HR := Lib.hid hR
  have f0 := hFR 0
  have f1 := hFR 1
  have f2 := hFR 2
  have f3 := hFR 3
  have f4 := hFR 4
  have f5 := hFR 5
  obtain ⟨c0, c1, c2, c3, c4, c5, hlt⟩ := hR
  clear hb1 hC hFR HH0 HC0 HL0
  rcases he with ⟨hc, rfl⟩ | ⟨hc, rfl⟩
  · go_wp2_with fail
    have HX := (six_set HR.out (gK s) (gD s) (gE s) (gS s) (gI s) (gB s (s.size - 2))).set_other (p := ⟨w.heap.size + 1, 0, none⟩) (by show w.heap.size + 1 ≠ w.heap.size; omega) (.int .i64 0)
    have HXL := (six_low HL1.out (Nat.le_refl _) (gK s) (gD s) (gE s) (gS s) (gI s) (gB s (s.size - 2))).setCell (p := ⟨w.heap.size + 1, 0, none⟩) (by show w.heap.size ≤ w.heap.size + 1; omega) (.int .i64 0)
    have HXC := World.cell?_setCell_same _ ⟨w.heap.size + 1, 0, none⟩ (.int .i64 0) (one_six (show w.heap.size + 1 ≠ w.heap.size by omega) c6 (.int .i64 (gK s)) (.int .i64 (gD s)) (.int .i64 (gE s)) (.int .i64 (gS s)) (.int .i64 (gI s)) (.string (gB s (s.size - 2))))
    obtain ⟨X, hX⟩ : ∃ X, X = (((((((w1.setCell ⟨w.heap.size, 0, none⟩ (.int .i64 (gK s))).setCell ⟨w.heap.size, 1, none⟩ (.int .i64 (gD s))).setCell ⟨w.heap.size, 2, none⟩ (.int .i64 (gE s))).setCell ⟨w.heap.size, 3, none⟩ (.int .i64 (gS s))).setCell ⟨w.heap.size, 4, none⟩ (.int .i64 (gI s))).setCell ⟨w.heap.size, 5, none⟩ (.string (gB s (s.size - 2)))).setCell ⟨w.heap.size + 1, 0, none⟩ (.int .i64 0)) := ⟨_, rfl⟩
    rw [← hX] at HX HXL HXC ⊢
    clear hX
    refine leaves_cons (f := 163) (args := #[.pointer (some ⟨w.heap.size + 1, 0, none⟩)]) (by simp) (by simp [go_sem]) ?_
    refine (catch_idle ⟨w.heap.size + 1, 0, none⟩ _).mono ?_
    rintro en u' w'' ⟨rfl, rfl, rfl⟩
    obtain ⟨x0, x1, x2, x3, x4, x5, hlx⟩ := HX
    simp [Leaves, settle, results, Tryz.results145, go_sem, x0, x1, x2, x3, x4, x5, HXC]
    exact ⟨.inl ⟨hc, rfl⟩, HXL⟩
  · unfold told
    go_wp2_with fail
    refine leaves_cons (f := 163) (args := #[.pointer (some ⟨w.heap.size + 1, 0, none⟩)]) (by simp) (by simp [go_sem]) ?_
    refine (catch_told ⟨w.heap.size + 1, 0, none⟩ 0 (gcode s) [] _ c6 f6).mono ?_
    rintro en u' w'' ⟨rfl, rfl, rfl⟩
    have HX := HR.out.set_other (p := ⟨w.heap.size + 1, 0, none⟩) (by show w.heap.size + 1 ≠ w.heap.size; omega) (.int .i64 (gcode s))
    have HXL := HL1.out.setCell (p := ⟨w.heap.size + 1, 0, none⟩) (by show w.heap.size ≤ w.heap.size + 1; omega) (.int .i64 (gcode s))
    have HXC := World.cell?_setCell_same _ ⟨w.heap.size + 1, 0, none⟩ (.int .i64 (gcode s)) c6
    obtain ⟨X, hX⟩ : ∃ X, X = (w1.setCell ⟨w.heap.size + 1, 0, none⟩ (.int .i64 (gcode s))) := ⟨_, rfl⟩
    rw [← hX] at HX HXL HXC ⊢
    clear hX
    obtain ⟨x0, x1, x2, x3, x4, x5, hlx⟩ := HX
    simp [Leaves, settle, results, Tryz.results145, go_sem, x0, x1, x2, x3, x4, x5, HXC]
    exact ⟨.inr ⟨hc, rfl⟩, HXL⟩

/-- what GetFrame tells, as a value -/
def gotV (s : ByteArray) : Value :=
  if gcode s = 0 then .agg #[.int .i64 (gK s), .int .i64 (gD s), .int .i64 (gE s), .int .i64 (gS s), .int .i64 (gI s), .string (gB s (s.size - 2))] else .agg #[.int .i64 0, .int .i64 0, .int .i64 0, .int .i64 0, .int .i64 0, .string ByteArray.empty]
theorem GotE.val {s : ByteArray} {en : Ending} (h : GotE s en) : ∃ k d e sq i b, gotV s = .agg #[.int .i64 k, .int .i64 d, .int .i64 e, .int .i64 sq, .int .i64 i, .string b] ∧ en = .returned (.tuple #[.agg #[.int .i64 k, .int .i64 d, .int .i64 e, .int .i64 sq, .int .i64 i, .string b], .int .i64 (gcode s)]) := by
  rcases h with ⟨hc, rfl⟩ | ⟨hc, rfl⟩
  · exact ⟨_, _, _, _, _, _, by rw [gotV, if_pos hc], by rw [hc]⟩
  · exact ⟨_, _, _, _, _, _, by rw [gotV, if_neg hc], rfl⟩

end Go.Proofs.YtkndpkingmemoaaGreatDoor.Frm
namespace Go.Proofs.YtkndpkingmemoaaGreatDoor.Gat
open Go.RowKit
open Lnk (bOne bAfter IOwn IIs YOwn YIs below_keep below_drew' bcell low_after low_alloc grown_of_below)
open Frm (GotE gcode gK gD gE gS gI gB told_len FOk)
set_option linter.unusedVariables false
set_option linter.unusedSimpArgs false

theorem errV_ne {c : Int} (h : c ≠ 0) : errV c = .iface 136 (.int .i64 c) := by unfold errV; rw [if_neg h]
/-- why bytes aren't read: a code, 0 where they are -/
noncomputable def rdC (s : ByteArray) (de : Int) : Int := sel (gcode s != 0) (2 + gcode s) (sel (decide (de < gD s)) 7 0)

set_option maxRecDepth 100000 in
set_option maxHeartbeats 8000000 in
theorem readFor_any (w : World) (de qu wi ti qa bu le pb pc pj pt nw la : Int) (ea : Option Addr) (en ec : Nat) (ka : Option Addr) (kn kc : Nat) (tu : Int) (fa : Option Addr) (fn fc : Nat) (ra : Option Addr) (rn rc : Nat) (tk ac dr : Int) (s : ByteArray) (hsz : s.size ≤ 281474976710656) :
    Calls Tryz.prog 108 #[.agg #[.int .i64 de, .int .i64 qu, .int .i64 wi, .int .i64 ti, .int .i64 qa, .int .i64 bu, .int .i64 le, .int .i64 pb, .int .i64 pc, .int .i64 pj, .int .i64 pt, .int .i64 nw, .int .i64 la, .slice ea en ec, .slice ka kn kc, .int .i64 tu, .slice fa fn fc, .slice ra rn rc, .int .i64 tk, .int .i64 ac, .int .i64 dr], .string s] w fun e w' => (∃ (kd fd fe fs fi : Int) (fb : ByteArray), e = .returned (.tuple #[.agg #[.int .i64 kd, .int .i64 fd, .int .i64 fe, .int .i64 fs, .int .i64 fi, .string fb], errV (rdC s de)]) ∧ (gcode s = 0 → kd = gK s ∧ fd = gD s ∧ fe = gE s ∧ fs = gS s)) ∧ Below w.heap.size w w' := by
  have hmi : ∀ (v : Value) (w : World), (Instr.makeInterface 136 v).run Tryz.prog w = .ok (.iface 136 v) w := fun v w => by kernel_rfl
  obtain ⟨W0, hW0⟩ : ∃ W, W = (w.alloc (.cells #[.int .i64 de, .int .i64 qu, .int .i64 wi, .int .i64 ti, .int .i64 qa, .int .i64 bu, .int .i64 le, .int .i64 pb, .int .i64 pc, .int .i64 pj, .int .i64 pt, .int .i64 nw, .int .i64 la, .slice ea en ec, .slice ka kn kc, .int .i64 tu, .slice fa fn fc, .slice ra rn rc, .int .i64 tk, .int .i64 ac, .int .i64 dr] 32)).alloc (.cells #[.int .i64 0, .int .i64 0, .int .i64 0, .int .i64 0, .int .i64 0, .string ⟨#[]⟩] 51) := ⟨_, rfl⟩
  have hb01 := bOne w (.cells #[.int .i64 de, .int .i64 qu, .int .i64 wi, .int .i64 ti, .int .i64 qa, .int .i64 bu, .int .i64 le, .int .i64 pb, .int .i64 pc, .int .i64 pj, .int .i64 pt, .int .i64 nw, .int .i64 la, .slice ea en ec, .slice ka kn kc, .int .i64 tu, .slice fa fn fc, .slice ra rn rc, .int .i64 tk, .int .i64 ac, .int .i64 dr] 32)
  have hb02 := bOne (w.alloc (.cells #[.int .i64 de, .int .i64 qu, .int .i64 wi, .int .i64 ti, .int .i64 qa, .int .i64 bu, .int .i64 le, .int .i64 pb, .int .i64 pc, .int .i64 pj, .int .i64 pt, .int .i64 nw, .int .i64 la, .slice ea en ec, .slice ka kn kc, .int .i64 tu, .slice fa fn fc, .slice ra rn rc, .int .i64 tk, .int .i64 ac, .int .i64 dr] 32)) (.cells #[.int .i64 0, .int .i64 0, .int .i64 0, .int .i64 0, .int .i64 0, .string ⟨#[]⟩] 51)
  have HA : Hid (Box W0 w.heap.size 32 [.int .i64 de, .int .i64 qu, .int .i64 wi, .int .i64 ti, .int .i64 qa, .int .i64 bu, .int .i64 le, .int .i64 pb, .int .i64 pc, .int .i64 pj, .int .i64 pt, .int .i64 nw, .int .i64 la, .slice ea en ec, .slice ka kn kc, .int .i64 tu, .slice fa fn fc, .slice ra rn rc, .int .i64 tk, .int .i64 ac, .int .i64 dr]) := Lib.hid (by rw [hW0]; exact (Box.new w [.int .i64 de, .int .i64 qu, .int .i64 wi, .int .i64 ti, .int .i64 qa, .int .i64 bu, .int .i64 le, .int .i64 pb, .int .i64 pc, .int .i64 pj, .int .i64 pt, .int .i64 nw, .int .i64 la, .slice ea en ec, .slice ka kn kc, .int .i64 tu, .slice fa fn fc, .slice ra rn rc, .int .i64 tk, .int .i64 ac, .int .i64 dr] 32).below hb02)
  have HR : Hid (Box W0 (w.heap.size + 1) 51 [.int .i64 0, .int .i64 0, .int .i64 0, .int .i64 0, .int .i64 0, .string ⟨#[]⟩]) := Lib.hid (by
    rw [hW0]
    have := Box.new (w.alloc (.cells #[.int .i64 de, .int .i64 qu, .int .i64 wi, .int .i64 ti, .int .i64 qa, .int .i64 bu, .int .i64 le, .int .i64 pb, .int .i64 pc, .int .i64 pj, .int .i64 pt, .int .i64 nw, .int .i64 la, .slice ea en ec, .slice ka kn kc, .int .i64 tu, .slice fa fn fc, .slice ra rn rc, .int .i64 tk, .int .i64 ac, .int .i64 dr] 32)) [.int .i64 0, .int .i64 0, .int .i64 0, .int .i64 0, .int .i64 0, .string ⟨#[]⟩] 51
    simpa using this)
  have HL : Hid (Below w.heap.size w W0) := Lib.hid (by rw [hW0]; exact hb01.trans (hb02.mono (by simp)))
  have HWE := Lib.hid hW0
  clear hW0 hb01 hb02
  go_enter Tryz.func108, Tryz.ntmps108
  go_upto_region 1 with fail
  rw [← HWE.out]
  clear HWE
  go_wp2_with fail
  refine (Frm.implGet_any s _ hsz).mono ?_
  rintro e w1 ⟨hgot, hb⟩
  obtain ⟨kd, fd, fe, fs, fi, fb, rfl, hfr⟩ := got_uni hgot
  obtain ⟨cc, hcc⟩ : ∃ c, c = gcode s := ⟨_, rfl⟩
  have HCR := Lib.hid (show 0 ≤ cc ∧ cc ≤ 3 by rw [hcc]; exact gcode_rng s)
  have HFR := Lib.hid hfr
  rw [← hcc]
  have HCC := Lib.hid hcc
  replace HA := Lib.hid (HA.out.below hb)
  replace HR := Lib.hid (HR.out.below hb)
  replace HL := Lib.hid (low_after HL.out hb)
  clear hb hgot hcc hfr
  obtain ⟨kf, hkf⟩ : ∃ k, k = w1.heap.size := ⟨_, rfl⟩
  go_upto_region 2 with fail
  obtain ⟨V0, hV0⟩ : ∃ V, V = w1.alloc (.cells #[.int .i64 kd, .int .i64 fd, .int .i64 fe, .int .i64 fs, .int .i64 fi, .string fb] 51) := ⟨_, rfl⟩
  have hb := bOne w1 (.cells #[.int .i64 kd, .int .i64 fd, .int .i64 fe, .int .i64 fs, .int .i64 fi, .string fb] 51)
  have HF := Lib.hid (show Box V0 kf 51 [.int .i64 kd, .int .i64 fd, .int .i64 fe, .int .i64 fs, .int .i64 fi, .string fb] by rw [hV0, hkf]; exact Box.new w1 [.int .i64 kd, .int .i64 fd, .int .i64 fe, .int .i64 fs, .int .i64 fi, .string fb] 51)
  rw [← hV0] at hb ⊢
  rw [← hkf]
  replace HA := Lib.hid (HA.out.below hb)
  replace HR := Lib.hid (HR.out.below hb)
  replace HL := Lib.hid (low_after HL.out hb)
  clear hb hV0 hkf
  have hcr := HCR.out
  rcases (show cc = 0 ∨ cc = 1 ∨ cc = 2 ∨ cc = 3 by omega) with rfl | rfl | rfl | rfl
  · obtain ⟨rfl, rfl, rfl, rfl⟩ := HFR.out HCC.out.symm
    have HFO := Lib.hid (told_len HCC.out.symm).2.2.1
    have hgd : 1 ≤ gD s ∧ gD s ≤ 6 := by have h := HFO.out; unfold Frm.FOk at h; omega
    have y1 := HF.out.cell 1 _ rfl
    clear hcr
    go_wp2_with (first | (refine wpList_load_box rfl _ 32 rfl rfl HA.out _ Tryz.underlying32 sizeGate ?_) | (refine wpList_load_box rfl _ 51 rfl rfl HF.out _ Tryz.underlying51 sizeFrm ?_) | (refine wpList_store_box rfl _ _ 51 rfl rfl [.int .i64 (gK s), .int .i64 (gD s), .int .i64 (gE s), .int .i64 (gS s), .int .i64 fi, .string fb] rfl HR.out sizeFrm rfl rfl ?_; intro V hXb hgV hlV) | fail)
    refine (hasDev_any _ de qu wi ti qa bu le pb pc pj pt nw la ea en ec ka kn kc tu fa fn fc ra rn rc tk ac dr (gD s)).mono ?_
    rintro e w2 ⟨rfl, hb⟩
    replace HA := Lib.hid (HA.out.below hb)
    replace HR := Lib.hid (HR.out.below hb)
    replace HF := Lib.hid (HF.out.below hb)
    replace HL := Lib.hid (low_after HL.out hb)
    clear hb y1
    cases h2 : inB 1 de (gD s) with
    | false =>
      have HE := Lib.hid (show errV (rdC s de) = .iface 136 (.int .i64 7) by
        have hd : decide (de < gD s) = true := by unfold inB at h2; simp at h2; simp; omega
        unfold rdC
        rw [← HCC.out, hd]
        exact errV_ne (by decide))
      clear h2 hgd
      go_wp2_with (first | (refine wpList_load_box rfl _ 32 rfl rfl HA.out _ Tryz.underlying32 sizeGate ?_) | (refine wpList_load_box rfl _ 51 rfl rfl HF.out _ Tryz.underlying51 sizeFrm ?_) | (refine wpList_store_box rfl _ _ 51 rfl rfl [.int .i64 (gK s), .int .i64 (gD s), .int .i64 (gE s), .int .i64 (gS s), .int .i64 fi, .string fb] rfl HR.out sizeFrm rfl rfl ?_; intro V hXb hgV hlV) | fail)
      exact bodyPost_ret (v := .tuple #[.agg #[.int .i64 (gK s), .int .i64 (gD s), .int .i64 (gE s), .int .i64 (gS s), .int .i64 fi, .string fb], .iface 136 (.int .i64 7)]) (results_box2 _ Tryz.results108 rfl rfl hXb _ Tryz.underlying51 sizeFrm) rfl ⟨⟨_, _, _, _, _, _, by rw [HE.out], fun _ => ⟨rfl, rfl, rfl, rfl⟩⟩, hlV w.heap.size w (by omega) HL.out⟩
    | true =>
      have HE := Lib.hid (show errV (rdC s de) = .nilIface by
        have hd : decide (de < gD s) = false := by have := inB_yes h2; simp; omega
        unfold rdC
        rw [← HCC.out, hd]
        rfl)
      clear h2 hgd
      go_wp2_with (first | (refine wpList_load_box rfl _ 32 rfl rfl HA.out _ Tryz.underlying32 sizeGate ?_) | (refine wpList_load_box rfl _ 51 rfl rfl HF.out _ Tryz.underlying51 sizeFrm ?_) | (refine wpList_store_box rfl _ _ 51 rfl rfl [.int .i64 (gK s), .int .i64 (gD s), .int .i64 (gE s), .int .i64 (gS s), .int .i64 fi, .string fb] rfl HR.out sizeFrm rfl rfl ?_; intro V hXb hgV hlV) | fail)
      exact bodyPost_ret (v := .tuple #[.agg #[.int .i64 (gK s), .int .i64 (gD s), .int .i64 (gE s), .int .i64 (gS s), .int .i64 fi, .string fb], .nilIface]) (results_box2 _ Tryz.results108 rfl rfl hXb _ Tryz.underlying51 sizeFrm) rfl ⟨⟨_, _, _, _, _, _, by rw [HE.out], fun _ => ⟨rfl, rfl, rfl, rfl⟩⟩, hlV w.heap.size w (by omega) HL.out⟩

  · have HE := Lib.hid (show errV (rdC s de) = .iface 136 (.int .i64 3) by
      unfold rdC
      rw [← HCC.out]
      show errV (2 + 1) = _
      exact errV_ne (by decide))
    clear hcr
    go_wp2_with (first | (refine wpList_load_box rfl _ 32 rfl rfl HA.out _ Tryz.underlying32 sizeGate ?_) | (refine wpList_load_box rfl _ 51 rfl rfl HF.out _ Tryz.underlying51 sizeFrm ?_) | (refine wpList_store_box rfl _ _ 51 rfl rfl [.int .i64 kd, .int .i64 fd, .int .i64 fe, .int .i64 fs, .int .i64 fi, .string fb] rfl HR.out sizeFrm rfl rfl ?_; intro V hXb hgV hlV) | fail)
    exact bodyPost_ret (v := .tuple #[.agg #[.int .i64 kd, .int .i64 fd, .int .i64 fe, .int .i64 fs, .int .i64 fi, .string fb], .iface 136 (.int .i64 3)]) (results_box2 _ Tryz.results108 rfl rfl hXb _ Tryz.underlying51 sizeFrm) rfl ⟨⟨_, _, _, _, _, _, by rw [HE.out], HFR.out⟩, hlV w.heap.size w (by omega) HL.out⟩

  · have HE := Lib.hid (show errV (rdC s de) = .iface 136 (.int .i64 4) by
      unfold rdC
      rw [← HCC.out]
      show errV (2 + 2) = _
      exact errV_ne (by decide))
    clear hcr
    go_wp2_with (first | (refine wpList_load_box rfl _ 32 rfl rfl HA.out _ Tryz.underlying32 sizeGate ?_) | (refine wpList_load_box rfl _ 51 rfl rfl HF.out _ Tryz.underlying51 sizeFrm ?_) | (refine wpList_store_box rfl _ _ 51 rfl rfl [.int .i64 kd, .int .i64 fd, .int .i64 fe, .int .i64 fs, .int .i64 fi, .string fb] rfl HR.out sizeFrm rfl rfl ?_; intro V hXb hgV hlV) | fail)
    exact bodyPost_ret (v := .tuple #[.agg #[.int .i64 kd, .int .i64 fd, .int .i64 fe, .int .i64 fs, .int .i64 fi, .string fb], .iface 136 (.int .i64 4)]) (results_box2 _ Tryz.results108 rfl rfl hXb _ Tryz.underlying51 sizeFrm) rfl ⟨⟨_, _, _, _, _, _, by rw [HE.out], HFR.out⟩, hlV w.heap.size w (by omega) HL.out⟩

  · have HE := Lib.hid (show errV (rdC s de) = .iface 136 (.int .i64 5) by
      unfold rdC
      rw [← HCC.out]
      show errV (2 + 3) = _
      exact errV_ne (by decide))
    clear hcr
    go_wp2_with (first | (refine wpList_load_box rfl _ 32 rfl rfl HA.out _ Tryz.underlying32 sizeGate ?_) | (refine wpList_load_box rfl _ 51 rfl rfl HF.out _ Tryz.underlying51 sizeFrm ?_) | (refine wpList_store_box rfl _ _ 51 rfl rfl [.int .i64 kd, .int .i64 fd, .int .i64 fe, .int .i64 fs, .int .i64 fi, .string fb] rfl HR.out sizeFrm rfl rfl ?_; intro V hXb hgV hlV) | fail)
    exact bodyPost_ret (v := .tuple #[.agg #[.int .i64 kd, .int .i64 fd, .int .i64 fe, .int .i64 fs, .int .i64 fi, .string fb], .iface 136 (.int .i64 5)]) (results_box2 _ Tryz.results108 rfl rfl hXb _ Tryz.underlying51 sizeFrm) rfl ⟨⟨_, _, _, _, _, _, by rw [HE.out], HFR.out⟩, hlV w.heap.size w (by omega) HL.out⟩

theorem fk_run (W : World) (es : List MapEntry) (k : Int) (r : Option (Nat × Value)) (hn : Instr.findNow (.int .i64) (.int .i64 k) es 0 = some r) : (Instr.findKey 3 (.int .i64 k) es).run Tryz.prog W = .ok r W := by
  have hi : Tryz.prog.underlying 3 = some (.int .i64) := Tryz.underlying3
  unfold Instr.findKey
  rw [Sem.run_bind, run_underlying hi]
  simp only [Result.andThen, hn]
  rfl
theorem mapPut (W : World) (b : Nat) (es : Array MapEntry) (c : Nat) (k : Int) (v : Value) (hk : (Lit.int .i64 k).wf = true) (h : W.heap[b]? = some (.map es c)) (hn : Instr.findNow (.int .i64) (.int .i64 k) es.toList 0 = some none) :
    (Instr.mapUpdate 148 (.map (some b)) (.int .i64 k) v).run Tryz.prog W = .ok () { W with heap := W.heap.setIfInBounds b (.map (es.push ⟨.int .i64 k, v, c⟩) (c + 1)) } := by
  have hu : Tryz.prog.underlying 148 = some (.map 3 146) := Tryz.underlying148
  have h1 := fk_run W es.toList k none hn
  simp [Instr.mapUpdate, run_underlying hu, MapKept.run_getObj_map h, Lnk.keyInt.check W false (keyOf_wf hk), h1, MapKept.run_setObj_map _ h, Result.andThen]
/-- the map of what is done of each kind of frame -/
def AnsM (w : World) (b : Nat) : Prop := w.heap[b]? = some (.map #[⟨.int .i64 2, .func (.func 146) #[] #[], 0⟩, ⟨.int .i64 4, .func (.func 147) #[] #[], 1⟩, ⟨.int .i64 3, .func (.func 148) #[] #[], 2⟩] 3)
theorem AnsM.below {w w' : World} {b : Nat} (h : AnsM w b) (hb : Below w.heap.size w w') : AnsM w' b := by
  unfold AnsM at *
  rw [hb.block b (by rcases Nat.lt_or_ge b w.heap.size with h1 | h1; exact h1; rw [Array.getElem?_eq_none h1] at h; cases h)]
  exact h
theorem AnsM.look {w : World} {b : Nat} (h : AnsM w b) (k : Int) (r : Option (Nat × Value)) (v : Value) (ok : Bool) (hk : (Lit.int .i64 k).wf = true) (hf : Instr.findNow (.int .i64) (.int .i64 k) [⟨.int .i64 2, .func (.func 146) #[] #[], 0⟩, ⟨.int .i64 4, .func (.func 147) #[] #[], 1⟩, ⟨.int .i64 3, .func (.func 148) #[] #[], 2⟩] 0 = some r) (hr : (∃ i, r = some (i, v) ∧ ok = true) ∨ (r = none ∧ ok = false ∧ ∀ w, (zeroValue 146).run Tryz.prog w = .ok v w)) :
    (Instr.lookup 148 (.map (some b)) (.int .i64 k) true).run Tryz.prog w = .ok (.tuple #[v, .bool ok]) w := by
  have hu : Tryz.prog.underlying 148 = some (.map 3 146) := Tryz.underlying148
  have h1 := fk_run w _ k r hf
  rcases hr with ⟨i, rfl, rfl⟩ | ⟨rfl, rfl, hz⟩
  · simp [Instr.lookup, run_underlying hu, MapKept.run_getObj_map h, Lnk.keyInt.check w false (keyOf_wf hk), h1, Result.andThen]
  · simp [Instr.lookup, run_underlying hu, MapKept.run_getObj_map h, Lnk.keyInt.check w false (keyOf_wf hk), h1, hz, Result.andThen]

theorem below_put {n : Nat} {w W : World} {b : Nat} (o : Obj) (h : Below n w W) (hb : n ≤ b) : Below n w { W with heap := W.heap.setIfInBounds b o } :=
  ⟨h.os, h.tape, h.output, by simpa using h.size, fun k hk => by
    rw [Array.getElem?_setIfInBounds_ne (by omega)]
    exact h.block k hk⟩
set_option maxRecDepth 100000 in
set_option maxHeartbeats 2000000 in
theorem answers_any (w : World) :
    Calls Tryz.prog 109 #[] w fun e w' => e = .returned (.map (some w.heap.size)) ∧ AnsM w' w.heap.size ∧ Below w.heap.size w w' := by
  have h0 : (w.alloc (.map #[] 0)).heap[w.heap.size]? = some (.map #[] 0) := heap_alloc_new w _
  have hl0 : Below w.heap.size w (w.alloc (.map #[] 0)) := bOne _ _
  obtain ⟨W0, hW0⟩ : ∃ W, W = w.alloc (.map #[] 0) := ⟨_, rfl⟩
  rw [← hW0] at h0 hl0
  have h1 := mapPut W0 w.heap.size _ _ 2 (.func (.func 146) #[] #[]) rfl h0 rfl
  obtain ⟨W1, hW1⟩ : ∃ W, W = { W0 with heap := W0.heap.setIfInBounds w.heap.size (.map ((#[] : Array MapEntry).push ⟨.int .i64 2, .func (.func 146) #[] #[], 0⟩) (0 + 1)) } := ⟨_, rfl⟩
  rw [← hW1] at h1
  have g1 : W1.heap[w.heap.size]? = some (.map #[⟨.int .i64 2, .func (.func 146) #[] #[], 0⟩] 1) := by rw [hW1]; have := (Array.getElem?_eq_some_iff.1 h0).1; simp [this]
  have hl1 : Below w.heap.size w W1 := by rw [hW1]; exact below_put _ hl0 (Nat.le_refl _)
  clear hW1
  have h2 := mapPut W1 w.heap.size _ _ 4 (.func (.func 147) #[] #[]) rfl g1 rfl
  obtain ⟨W2, hW2⟩ : ∃ W, W = { W1 with heap := W1.heap.setIfInBounds w.heap.size (.map ((#[⟨.int .i64 2, .func (.func 146) #[] #[], 0⟩] : Array MapEntry).push ⟨.int .i64 4, .func (.func 147) #[] #[], 1⟩) (1 + 1)) } := ⟨_, rfl⟩
  rw [← hW2] at h2
  have g2 : W2.heap[w.heap.size]? = some (.map #[⟨.int .i64 2, .func (.func 146) #[] #[], 0⟩, ⟨.int .i64 4, .func (.func 147) #[] #[], 1⟩] 2) := by rw [hW2]; have := (Array.getElem?_eq_some_iff.1 g1).1; simp [this]
  have hl2 : Below w.heap.size w W2 := by rw [hW2]; exact below_put _ hl1 (Nat.le_refl _)
  clear hW2
  have h3 := mapPut W2 w.heap.size _ _ 3 (.func (.func 148) #[] #[]) rfl g2 rfl
  obtain ⟨W3, hW3⟩ : ∃ W, W = { W2 with heap := W2.heap.setIfInBounds w.heap.size (.map ((#[⟨.int .i64 2, .func (.func 146) #[] #[], 0⟩, ⟨.int .i64 4, .func (.func 147) #[] #[], 1⟩] : Array MapEntry).push ⟨.int .i64 3, .func (.func 148) #[] #[], 2⟩) (2 + 1)) } := ⟨_, rfl⟩
  rw [← hW3] at h3
  have g3 : AnsM W3 w.heap.size := by unfold AnsM; rw [hW3]; have := (Array.getElem?_eq_some_iff.1 g2).1; simp [this]
  have hl3 : Below w.heap.size w W3 := by rw [hW3]; exact below_put _ hl2 (Nat.le_refl _)
  clear hW3 h0 g1 g2 hl0 hl1 hl2
  rw [hW0] at h1
  have hmk : ∀ (w : World), (Instr.makeMap 148 none).run Tryz.prog w = .ok (.map (some w.heap.size)) (w.alloc (.map #[] 0)) := fun w => rfl
  go_enter Tryz.func109, Tryz.ntmps109
  go_wp2_with fail
  go_ret
  exact ⟨rfl, g3, hl3⟩

end Go.Proofs.YtkndpkingmemoaaGreatDoor.Gat
