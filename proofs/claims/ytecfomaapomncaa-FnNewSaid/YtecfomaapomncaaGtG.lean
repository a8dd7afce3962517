/-
  A gate: as it is read, its box; measured, copied, compared with its like.
-/
import Derived.Test.YtecfomaapomncaaGtE
import Derived.Test.YtecfomaapomncaaGtD
namespace Go.Proofs.Ytecfomaapomncaa.Gat
open Go.RowKit
open Lnk (bOne bAfter IOwn IIs below_keep below_drew' bcell)
set_option linter.unusedVariables false

theorem sizeGate : (Try.prog.info? 33).map (·.size) = some 21 := by kernel_rfl
/-- a gate's lists, as read -/
structure GIs (B : Nat) (w : World) (ea : Option Addr) (en : Nat) (ka : Option Addr) (kn : Nat) (fa : Option Addr) (fn : Nat) (ra : Option Addr) (rn : Nat) (E : List Ev) (K : List Lk) (F R : List Int) : Prop where
  ev : EIs B w ea en E
  lk : LIs B w ka kn K
  lf : IIs B w fa fn F
  lt : IIs B w ra rn R
  fle : fn ≤ maxLen
  rle : rn ≤ maxLen
section
variable {B B' : Nat} {w w' : World} {ea : Option Addr} {en : Nat} {ka : Option Addr} {kn : Nat} {fa : Option Addr} {fn : Nat} {ra : Option Addr} {rn : Nat} {E : List Ev} {K : List Lk} {F R : List Int}
theorem GIs.below (h : GIs B w ea en ka kn fa fn ra rn E K F R) (hb : Below B w w') : GIs B w' ea en ka kn fa fn ra rn E K F R := ⟨h.ev.below hb, h.lk.below hb, h.lf.below hb, h.lt.below hb, h.fle, h.rle⟩
theorem GIs.mono (h : GIs B w ea en ka kn fa fn ra rn E K F R) (hB : B ≤ B') : GIs B' w ea en ka kn fa fn ra rn E K F R := ⟨h.ev.mono hB, h.lk.mono hB, h.lf.mono hB, h.lt.mono hB, h.fle, h.rle⟩
theorem GIs.here (h : GIs w.heap.size w ea en ka kn fa fn ra rn E K F R) (hb : Below w.heap.size w w') : GIs w'.heap.size w' ea en ka kn fa fn ra rn E K F R := (h.below hb).mono hb.size
end
/-- lists that are not too long -/
def Small (en kn fn rn : Nat) (K : List Lk) : Prop := en ≤ 1048576 ∧ kn ≤ 1048576 ∧ (∀ k ∈ K, k.l.length ≤ 1048576) ∧ fn ≤ 1048576 ∧ rn ≤ 1048576

/-- a gate's box -/
structure B21 (w : World) (k : Nat) (de qu wi ti qa bu le pb pc pj pt nw la : Int) (ea : Option Addr) (en ec : Nat) (ka : Option Addr) (kn kc : Nat) (tu : Int) (fa : Option Addr) (fn fc : Nat) (ra : Option Addr) (rn rc : Nat) (tk ac dr : Int) : Prop where
  c0 : w.cell? ⟨k, 0, none⟩ = some (.int .i64 de)
  c1 : w.cell? ⟨k, 1, none⟩ = some (.int .i64 qu)
  c2 : w.cell? ⟨k, 2, none⟩ = some (.int .i64 wi)
  c3 : w.cell? ⟨k, 3, none⟩ = some (.int .i64 ti)
  c4 : w.cell? ⟨k, 4, none⟩ = some (.int .i64 qa)
  c5 : w.cell? ⟨k, 5, none⟩ = some (.int .i64 bu)
  c6 : w.cell? ⟨k, 6, none⟩ = some (.int .i64 le)
  c7 : w.cell? ⟨k, 7, none⟩ = some (.int .i64 pb)
  c8 : w.cell? ⟨k, 8, none⟩ = some (.int .i64 pc)
  c9 : w.cell? ⟨k, 9, none⟩ = some (.int .i64 pj)
  c10 : w.cell? ⟨k, 10, none⟩ = some (.int .i64 pt)
  c11 : w.cell? ⟨k, 11, none⟩ = some (.int .i64 nw)
  c12 : w.cell? ⟨k, 12, none⟩ = some (.int .i64 la)
  c13 : w.cell? ⟨k, 13, none⟩ = some (.slice ea en ec)
  c14 : w.cell? ⟨k, 14, none⟩ = some (.slice ka kn kc)
  c15 : w.cell? ⟨k, 15, none⟩ = some (.int .i64 tu)
  c16 : w.cell? ⟨k, 16, none⟩ = some (.slice fa fn fc)
  c17 : w.cell? ⟨k, 17, none⟩ = some (.slice ra rn rc)
  c18 : w.cell? ⟨k, 18, none⟩ = some (.int .i64 tk)
  c19 : w.cell? ⟨k, 19, none⟩ = some (.int .i64 ac)
  c20 : w.cell? ⟨k, 20, none⟩ = some (.int .i64 dr)
  lt : k < w.heap.size
section
variable {w w' : World} {k : Nat} {de qu wi ti qa bu le pb pc pj pt nw la : Int} {ea : Option Addr} {en ec : Nat} {ka : Option Addr} {kn kc : Nat} {tu : Int} {fa : Option Addr} {fn fc : Nat} {ra : Option Addr} {rn rc : Nat} {tk ac dr : Int}
theorem B21.new (w : World) (de qu wi ti qa bu le pb pc pj pt nw la : Int) (ea : Option Addr) (en ec : Nat) (ka : Option Addr) (kn kc : Nat) (tu : Int) (fa : Option Addr) (fn fc : Nat) (ra : Option Addr) (rn rc : Nat) (tk ac dr : Int) (ty : TypeId) : B21 (w.alloc (.cells #[.int .i64 de, .int .i64 qu, .int .i64 wi, .int .i64 ti, .int .i64 qa, .int .i64 bu, .int .i64 le, .int .i64 pb, .int .i64 pc, .int .i64 pj, .int .i64 pt, .int .i64 nw, .int .i64 la, .slice ea en ec, .slice ka kn kc, .int .i64 tu, .slice fa fn fc, .slice ra rn rc, .int .i64 tk, .int .i64 ac, .int .i64 dr] ty)) w.heap.size de qu wi ti qa bu le pb pc pj pt nw la ea en ec ka kn kc tu fa fn fc ra rn rc tk ac dr :=
  ⟨cell_of_row _ _ 0 _ ty (0, 0) (heap_alloc_new w _), cell_of_row _ _ 1 _ ty (0, 0) (heap_alloc_new w _), cell_of_row _ _ 2 _ ty (0, 0) (heap_alloc_new w _), cell_of_row _ _ 3 _ ty (0, 0) (heap_alloc_new w _), cell_of_row _ _ 4 _ ty (0, 0) (heap_alloc_new w _), cell_of_row _ _ 5 _ ty (0, 0) (heap_alloc_new w _), cell_of_row _ _ 6 _ ty (0, 0) (heap_alloc_new w _), cell_of_row _ _ 7 _ ty (0, 0) (heap_alloc_new w _), cell_of_row _ _ 8 _ ty (0, 0) (heap_alloc_new w _), cell_of_row _ _ 9 _ ty (0, 0) (heap_alloc_new w _), cell_of_row _ _ 10 _ ty (0, 0) (heap_alloc_new w _), cell_of_row _ _ 11 _ ty (0, 0) (heap_alloc_new w _), cell_of_row _ _ 12 _ ty (0, 0) (heap_alloc_new w _), cell_of_row _ _ 13 _ ty (0, 0) (heap_alloc_new w _), cell_of_row _ _ 14 _ ty (0, 0) (heap_alloc_new w _), cell_of_row _ _ 15 _ ty (0, 0) (heap_alloc_new w _), cell_of_row _ _ 16 _ ty (0, 0) (heap_alloc_new w _), cell_of_row _ _ 17 _ ty (0, 0) (heap_alloc_new w _), cell_of_row _ _ 18 _ ty (0, 0) (heap_alloc_new w _), cell_of_row _ _ 19 _ ty (0, 0) (heap_alloc_new w _), cell_of_row _ _ 20 _ ty (0, 0) (heap_alloc_new w _), by simp⟩
theorem B21.below (h : B21 w k de qu wi ti qa bu le pb pc pj pt nw la ea en ec ka kn kc tu fa fn fc ra rn rc tk ac dr) (hb : Below w.heap.size w w') : B21 w' k de qu wi ti qa bu le pb pc pj pt nw la ea en ec ka kn kc tu fa fn fc ra rn rc tk ac dr :=
  ⟨(hb.cell (p := ⟨k, 0, none⟩) h.lt).trans h.c0, (hb.cell (p := ⟨k, 1, none⟩) h.lt).trans h.c1, (hb.cell (p := ⟨k, 2, none⟩) h.lt).trans h.c2, (hb.cell (p := ⟨k, 3, none⟩) h.lt).trans h.c3, (hb.cell (p := ⟨k, 4, none⟩) h.lt).trans h.c4, (hb.cell (p := ⟨k, 5, none⟩) h.lt).trans h.c5, (hb.cell (p := ⟨k, 6, none⟩) h.lt).trans h.c6, (hb.cell (p := ⟨k, 7, none⟩) h.lt).trans h.c7, (hb.cell (p := ⟨k, 8, none⟩) h.lt).trans h.c8, (hb.cell (p := ⟨k, 9, none⟩) h.lt).trans h.c9, (hb.cell (p := ⟨k, 10, none⟩) h.lt).trans h.c10, (hb.cell (p := ⟨k, 11, none⟩) h.lt).trans h.c11, (hb.cell (p := ⟨k, 12, none⟩) h.lt).trans h.c12, (hb.cell (p := ⟨k, 13, none⟩) h.lt).trans h.c13, (hb.cell (p := ⟨k, 14, none⟩) h.lt).trans h.c14, (hb.cell (p := ⟨k, 15, none⟩) h.lt).trans h.c15, (hb.cell (p := ⟨k, 16, none⟩) h.lt).trans h.c16, (hb.cell (p := ⟨k, 17, none⟩) h.lt).trans h.c17, (hb.cell (p := ⟨k, 18, none⟩) h.lt).trans h.c18, (hb.cell (p := ⟨k, 19, none⟩) h.lt).trans h.c19, (hb.cell (p := ⟨k, 20, none⟩) h.lt).trans h.c20, Nat.lt_of_lt_of_le h.lt hb.size⟩
theorem B21.low {B : Nat} (h : B21 w k de qu wi ti qa bu le pb pc pj pt nw la ea en ec ka kn kc tu fa fn fc ra rn rc tk ac dr) (hb : Below B w w') (hlt : k < B) : B21 w' k de qu wi ti qa bu le pb pc pj pt nw la ea en ec ka kn kc tu fa fn fc ra rn rc tk ac dr :=
  ⟨(hb.cell (p := ⟨k, 0, none⟩) hlt).trans h.c0, (hb.cell (p := ⟨k, 1, none⟩) hlt).trans h.c1, (hb.cell (p := ⟨k, 2, none⟩) hlt).trans h.c2, (hb.cell (p := ⟨k, 3, none⟩) hlt).trans h.c3, (hb.cell (p := ⟨k, 4, none⟩) hlt).trans h.c4, (hb.cell (p := ⟨k, 5, none⟩) hlt).trans h.c5, (hb.cell (p := ⟨k, 6, none⟩) hlt).trans h.c6, (hb.cell (p := ⟨k, 7, none⟩) hlt).trans h.c7, (hb.cell (p := ⟨k, 8, none⟩) hlt).trans h.c8, (hb.cell (p := ⟨k, 9, none⟩) hlt).trans h.c9, (hb.cell (p := ⟨k, 10, none⟩) hlt).trans h.c10, (hb.cell (p := ⟨k, 11, none⟩) hlt).trans h.c11, (hb.cell (p := ⟨k, 12, none⟩) hlt).trans h.c12, (hb.cell (p := ⟨k, 13, none⟩) hlt).trans h.c13, (hb.cell (p := ⟨k, 14, none⟩) hlt).trans h.c14, (hb.cell (p := ⟨k, 15, none⟩) hlt).trans h.c15, (hb.cell (p := ⟨k, 16, none⟩) hlt).trans h.c16, (hb.cell (p := ⟨k, 17, none⟩) hlt).trans h.c17, (hb.cell (p := ⟨k, 18, none⟩) hlt).trans h.c18, (hb.cell (p := ⟨k, 19, none⟩) hlt).trans h.c19, (hb.cell (p := ⟨k, 20, none⟩) hlt).trans h.c20, Nat.lt_of_lt_of_le h.lt hb.size⟩
end
set_option maxRecDepth 100000 in
set_option maxHeartbeats 2000000 in
theorem szGate_any (w : World) (de qu wi ti qa bu le pb pc pj pt nw la : Int) (ea : Option Addr) (en ec : Nat) (ka : Option Addr) (kn kc : Nat) (tu : Int) (fa : Option Addr) (fn fc : Nat) (ra : Option Addr) (rn rc : Nat) (tk ac dr : Int) (E : List Ev) (K : List Lk) (F R : List Int) (h : GIs w.heap.size w ea en ka kn fa fn ra rn E K F R) :
    Calls Try.prog 21 #[.agg #[.int .i64 de, .int .i64 qu, .int .i64 wi, .int .i64 ti, .int .i64 qa, .int .i64 bu, .int .i64 le, .int .i64 pb, .int .i64 pc, .int .i64 pj, .int .i64 pt, .int .i64 nw, .int .i64 la, .slice ea en ec, .slice ka kn kc, .int .i64 tu, .slice fa fn fc, .slice ra rn rc, .int .i64 tk, .int .i64 ac, .int .i64 dr], .int .i64 1048576] w fun e w' => (∃ z : Int, e = .returned (.int .i64 z) ∧ SzEnd z 1048576 (Small en kn fn rn K)) ∧ Below w.heap.size w w' := by
  have HB0 := Lib.hid (B21.new w de qu wi ti qa bu le pb pc pj pt nw la ea en ec ka kn kc tu fa fn fc ra rn rc tk ac dr 51)
  have HL0 := Lib.hid (bOne w (.cells #[.int .i64 de, .int .i64 qu, .int .i64 wi, .int .i64 ti, .int .i64 qa, .int .i64 bu, .int .i64 le, .int .i64 pb, .int .i64 pc, .int .i64 pj, .int .i64 pt, .int .i64 nw, .int .i64 la, .slice ea en ec, .slice ka kn kc, .int .i64 tu, .slice fa fn fc, .slice ra rn rc, .int .i64 tk, .int .i64 ac, .int .i64 dr] 51))
  have HT := Lib.hid h
  clear h
  go_enter Try.func21, Try.ntmps21
  go_wp2_with fail
  refine (szEvents_any ea en ec E 1048576 _ (HT.out.ev.here HL0.out) (by omega) (by omega)).mono ?_
  rintro e w1 ⟨⟨z1, rfl, h1⟩, hb1⟩
  have HL1 := Lib.hid (bAfter HL0.out hb1 HL0.out.size)
  have HB1 := Lib.hid (HB0.out.below hb1)
  clear hb1 HB0 HL0
  obtain ⟨c0, c1, c2, c3, c4, c5, c6, c7, c8, c9, c10, c11, c12, c13, c14, c15, c16, c17, c18, c19, c20, lt⟩ := HB1.out
  rcases h1 with rfl | ⟨hz1, hx1, he⟩
  · go_wp2_with fail
    go_ret
    exact ⟨⟨-1, rfl, .inl rfl⟩, HL1.out⟩
  have hn1 : ¬ z1 < 0 := by omega
  have H1 := Lib.hid (And.intro hx1 he)
  clear hx1 he
  go_wp2_with fail
  refine (szLinks_any ka kn kc K z1 _ (HT.out.lk.here HL1.out) hz1 H1.out.1).mono ?_
  rintro e w2 ⟨⟨z2, rfl, h2⟩, hb2⟩
  have HL2 := Lib.hid (bAfter HL1.out hb2 HL1.out.size)
  have HB2 := Lib.hid (HB1.out.below hb2)
  clear hb2 HB1 HL1 c0 c1 c2 c3 c4 c5 c6 c7 c8 c9 c10 c11 c12 c13 c14 c15 c16 c17 c18 c19 c20 lt
  obtain ⟨c0, c1, c2, c3, c4, c5, c6, c7, c8, c9, c10, c11, c12, c13, c14, c15, c16, c17, c18, c19, c20, lt⟩ := HB2.out
  rcases h2 with rfl | ⟨hz2, hx2, hk⟩
  · go_wp2_with fail
    go_ret
    exact ⟨⟨-1, rfl, .inl rfl⟩, HL2.out⟩
  have hn2 : ¬ z2 < 0 := by omega
  have H2 := Lib.hid (And.intro (Int.le_trans hx2 H1.out.1) hk)
  clear hx2 hk
  go_wp2_with fail
  refine (szInts_any fa fn fc z2 _ HT.out.fle hz2 H2.out.1).mono ?_
  rintro e w3 ⟨⟨z3, rfl, h3⟩, rfl⟩
  rcases h3 with rfl | ⟨hz3, hx3, hf⟩
  · go_wp2_with fail
    go_ret
    exact ⟨⟨-1, rfl, .inl rfl⟩, HL2.out⟩
  have hn3 : ¬ z3 < 0 := by omega
  have H3 := Lib.hid (And.intro (Int.le_trans hx3 H2.out.1) hf)
  clear hx3 hf
  go_wp2_with fail
  refine (szInts_any ra rn rc z3 _ HT.out.rle hz3 H3.out.1).mono ?_
  rintro e w3 ⟨⟨z4, rfl, h4⟩, rfl⟩
  rcases h4 with rfl | ⟨hz4, hx4, hr⟩
  · go_wp2_with fail
    go_ret
    exact ⟨⟨-1, rfl, .inl rfl⟩, HL2.out⟩
  have hn4 : ¬ z4 < 0 := by omega
  have H4 := Lib.hid (And.intro (Int.le_trans hx4 H3.out.1) hr)
  clear hx4 hr
  go_wp2_with fail
  go_ret
  exact ⟨⟨z4, rfl, .inr ⟨hz4, H4.out.1, H1.out.2, H2.out.2.1, H2.out.2.2, H3.out.2, H4.out.2⟩⟩, HL2.out⟩

end Go.Proofs.Ytecfomaapomncaa.Gat
