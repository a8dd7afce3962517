/-
  The walk of spec's SetTimer.
-/
import Derived.Test.YtkoliacbajpijaaDoorSptW
import Derived.Test.YtkoliacbajpijaaDoorRgk
import Derived.Deep.DeepCutAuto
namespace Go.Proofs.YtkoliacbajpijaaDoor.Whl
open Go.RowKit Go.Maps
set_option linter.unusedVariables false
set_option linter.unusedSimpArgs false

/-- the wheel that is made, in its box at o -/
structure Pt (w : World) (o B g n cap : Nat) (now : Int) (M : List T) : Prop where
  box : Bx w o (.int .i64 now) (.slice (some ⟨g, 0, none⟩) n cap)
  fro : Bf w o
  own : TOwn B w 28 (.slice (some ⟨g, 0, none⟩) n cap) M
  go : g < o
  nM : n = M.length
theorem Pt.below {w w1 : World} {o B g n cap : Nat} {now : Int} {M : List T} (h : Pt w o B g n cap now M) (hb : Below w.heap.size w w1) : Pt w1 o B g n cap now M := ⟨h.box.below hb, h.fro.low hb h.box.lt, h.own.below hb, h.go, h.nM⟩

theorem TOwn.le_cap {B : Nat} {w : World} {E : TypeId} {g n cap : Nat} {l : List T} (h : TOwn B w E (.slice (some ⟨g, 0, none⟩) n cap) l) : n ≤ cap := by
  rcases h.2 with ⟨e, _⟩ | ⟨g2, c, cur, e, _, _, hn, _⟩
  · cases e
  · simp only [Value.slice.injEq] at e
    obtain ⟨_, e1, e2⟩ := e
    omega
theorem TIs.block {B o : Nat} {w : World} {g off len : Nat} {l : List T} (h : TIs B w (some ⟨g, off, none⟩) len l) (hg : g < o) : TIs o w (some ⟨g, off, none⟩) len l := by
  refine ⟨h.hlen, h.le, fun k hk => ?_⟩
  obtain ⟨b, off1, e, _, h0, h1⟩ := h.cell k hk
  have eb : g = b := by simp at e; exact e.1
  exact ⟨b, off1, e, by omega, h0, h1⟩
section
variable {W cur w' : World} {o g n cap p : Nat} {now x y : Int} {M S S' : List T} {v v' : Value}
theorem app_low (hb : Below W.heap.size W cur) (h : TOwn W.heap.size cur 28 v S) (ha : AppT W.heap.size cur v S' v' w') : Below W.heap.size W w' := ha.below hb (Nat.le_refl _) (fun k hk => (World.ownsRow.lt h k hk).1)
theorem low_ad (W : World) (o1 : Obj) : Below W.heap.size W (W.drew.alloc o1) := (below_drew' (Below.refl _ _)).alloc (Nat.le_refl _) _
theorem low_ad2 (W : World) (o1 o2 : Obj) : Below W.heap.size W ((W.drew.alloc o1).alloc o2) := (low_ad W o1).alloc (low_ad W o1).size _
theorem lowA (h : Below W.heap.size W cur) (o1 : Obj) : Below W.heap.size W (cur.alloc o1) := h.alloc h.size _
theorem tnil0 (W : World) : TOwn W.heap.size (W.drew.alloc (.cells #[] 28)) 28 (.slice (some ⟨W.heap.size, 0, none⟩) 0 0) [] := tnil W.drew
theorem tnil1 (W : World) (o1 : Obj) : TOwn W.heap.size ((W.drew.alloc o1).alloc (.cells #[] 28)) 28 (.slice (some ⟨W.heap.size + 1, 0, none⟩) 0 0) [] := by
  have h := tnil (W.drew.alloc o1)
  have e : (W.drew.alloc o1).heap.size = W.heap.size + 1 := by simp
  rw [e] at h
  exact h.base (by omega)
theorem tis_one1 (W : World) (x y : Int) : TIs ((W.drew.alloc (.cells #[] 28)).alloc (.cells #[.int .i64 x, .int .i64 y] 28)).heap.size ((W.drew.alloc (.cells #[] 28)).alloc (.cells #[.int .i64 x, .int .i64 y] 28)) (some ⟨W.heap.size + 1, 0, none⟩) 1 [(x, y)] := by
  have h := tis_one (W.drew.alloc (.cells #[] 28)) x y
  have e : (W.drew.alloc (.cells #[] 28)).heap.size = W.heap.size + 1 := by simp
  rw [e] at h
  exact h
theorem tis_one0 (W : World) (x y : Int) : TIs ((W.drew.alloc (.cells #[.int .i64 x, .int .i64 y] 28)).alloc (.cells #[] 28)).heap.size ((W.drew.alloc (.cells #[.int .i64 x, .int .i64 y] 28)).alloc (.cells #[] 28)) (some ⟨W.heap.size, 0, none⟩) 1 [(x, y)] :=
  (tis_one W.drew x y).here (bOne _ _)
theorem tis_low {B : Nat} {a : Option Addr} {len : Nat} (h : TIs B W a len M) (hb : Below W.heap.size W cur) (hB : B ≤ W.heap.size) : TIs cur.heap.size cur a len M := (h.below (hb.mono hB)).mono (Nat.le_trans hB hb.size)
/-- a timer in a block of its own, behind an append to another row -/
theorem one_app {b : Nat} (h : TIs cur.heap.size cur (some ⟨b, 0, none⟩) 1 [(x, y)]) (ha : AppT W.heap.size cur v S' v' w') (hne : v.ownBlock ≠ some b) : TIs w'.heap.size w' (some ⟨b, 0, none⟩) 1 [(x, y)] := by
  refine ⟨h.hlen, h.le, fun k hk => ?_⟩
  obtain ⟨b1, off, e, hlt, h0, h1⟩ := h.cell k hk
  have hg := ha.2.1
  have eb : b = b1 := by simp at e; exact e.1
  refine ⟨b1, off, e, Nat.lt_of_lt_of_le hlt hg.size, ?_, ?_⟩
  · exact (hg.cell_far ⟨b1, off + k * 2, none⟩ hlt (by rw [← eb]; exact Ne.symm hne)).trans h0
  · exact (hg.cell_far ⟨b1, off + k * 2 + 1, none⟩ hlt (by rw [← eb]; exact Ne.symm hne)).trans h1
theorem held_of {tb : Nat} (hb : Below o W w') (h0 : W.cell? ⟨tb, 0, none⟩ = some (.int .i64 x)) (h1 : W.cell? ⟨tb, 1, none⟩ = some (.int .i64 y)) (ht : tb < o) : w'.cell? ⟨tb, 0, none⟩ = some (.int .i64 x) ∧ w'.cell? ⟨tb, 1, none⟩ = some (.int .i64 y) ∧ Below o W w' :=
  ⟨(hb.cell (p := ⟨tb, 0, none⟩) ht).trans h0, (hb.cell (p := ⟨tb, 1, none⟩) ht).trans h1, hb⟩
theorem tis_take {a : Option Addr} {B len : Nat} (h : TIs B W a len M) (hp : p ≤ len) : TIs B W a p (M.take p) := by
  have hl := h.hlen
  refine ⟨by simp; omega, Nat.le_trans hp h.le, fun k hk => ?_⟩
  have hk' : k < p := by simp at hk; omega
  obtain ⟨b, off, e, hlt, h0, h1⟩ := h.cell k (by omega)
  exact ⟨b, off, e, hlt, by rw [h0, List.getElem_take], by rw [h1, List.getElem_take]⟩
theorem tis_drop {B b off len : Nat} (h : TIs B W (some ⟨b, off, none⟩) len M) (hp : p ≤ len) : TIs B W (some ⟨b, off + p * 2, none⟩) (len - p) (M.drop p) := by
  have hl := h.hlen
  refine ⟨by simp; omega, Nat.le_trans (Nat.sub_le _ _) h.le, fun k hk => ?_⟩
  have hk' : k < len - p := by simp at hk; omega
  obtain ⟨b1, off1, e, hlt, h0, h1⟩ := h.cell (p + k) (by omega)
  obtain ⟨rfl, rfl⟩ : b = b1 ∧ off = off1 := by simpa using e
  refine ⟨b, off + p * 2, rfl, hlt, ?_, ?_⟩
  · rw [List.getElem_drop, ← h0]
    congr 2
    omega
  · rw [List.getElem_drop, ← h1]
    congr 2
    omega
end

set_option maxRecDepth 100000 in
set_option maxHeartbeats 4000000 in
theorem specSetTimer_any (w : World) (a : Option Addr) (len cap : Nat) (now : Int) (l : List T) (x y : Int) (h : TIs w.heap.size w a len l) (hlen : len ≤ 1048576) (hcap : a = none → cap = 0) :
    Calls Tryd.prog 14 #[.agg #[.int .i64 now, .slice a len cap], .agg #[.int .i64 x, .int .i64 y]] w fun e w' => SetEnd w.heap.size w w' now (setB now l (x, y)) (setR now l (x, y)) e := by
  obtain ⟨hfr, hbx⟩ := fr_three w a len cap now x y l h
  have HF := Lib.hid hfr
  have HX := Lib.hid hbx
  clear h hfr hbx
  go_enter Tryd.func14, Tryd.ntmps14
  go_wp2_with fail
  refine (specWheelOk_any _ a len cap now l HF.out.tis).mono ?_
  rintro e w2 ⟨rfl, hb2⟩
  have HF2 := Lib.hid (HF.out.step hb2)
  have HX2 := Lib.hid (HX.out.below hb2)
  clear hb2 HF HX
  obtain ⟨c0, c1, c2, c3, f2, f3⟩ := HF2.out.cells
  have d0 := HX2.out.c0
  have d1 := HX2.out.c1
  by_cases hok : WOk now l
  · rw [wokB_true hok]
    have HOK := Lib.hid hok
    clear hok
    go_wp2_with fail
    refine (specDropTimer_any' w2 a len cap now l y HF2.out.tis hlen hcap).mono ?_
    rintro e w3 ⟨⟨⟨a', cap', he, ho⟩, hb3⟩, hgf⟩
    obtain ⟨g, cp, he2⟩ := hgf HOK.out
    rw [drpR_ok HOK.out] at he ho
    obtain ⟨rfl, rfl⟩ : a' = some ⟨g, 0, none⟩ ∧ cap' = cp := by
      rw [he] at he2
      simpa using he2
    subst he
    have HF3 := Lib.hid (HF2.out.step hb3)
    have HX3 := Lib.hid (HX2.out.below hb3)
    have hpt : Pt (w3.alloc (.cells #[.int .i64 now, .slice (some ⟨g, 0, none⟩) (dropL l y).length cap'] 26)) w3.heap.size w2.heap.size g (dropL l y).length cap' now (dropL l y) :=
      ⟨Bx.new w3 _ _ _, Bf.new w3 #[.int .i64 now, .slice (some ⟨g, 0, none⟩) (dropL l y).length cap'] 26, ho.below (bOne _ _), (World.ownsRow.lt ho g rfl).2, rfl⟩
    have HPT := Lib.hid hpt
    have HF4 := Lib.hid (HF3.out.step (bOne w3 (.cells #[.int .i64 now, .slice (some ⟨g, 0, none⟩) (dropL l y).length cap'] 26)))
    have HX4 := Lib.hid (HX3.out.below (bOne w3 (.cells #[.int .i64 now, .slice (some ⟨g, 0, none⟩) (dropL l y).length cap'] 26)))
    have HSZ := Lib.hid (show w.heap.size + 1 + 1 < w2.heap.size ∧ w2.heap.size ≤ w3.heap.size from ⟨HF2.out.b1.lt, hb3.size⟩)
    have HML := Lib.hid (show (dropL l y).length ≤ 60 from Nat.le_trans (List.length_filter_le _ _) HOK.out.len)
    obtain ⟨M, hM⟩ : ∃ M, M = dropL l y := ⟨_, rfl⟩
    have HM := Lib.hid hM
    rw [← hM] at HPT HF4 HX4 HML ⊢
    obtain ⟨n, hn⟩ : ∃ n, n = M.length := ⟨_, rfl⟩
    have HN := Lib.hid hn
    rw [← hn] at HPT HF4 HX4 HML ⊢
    clear ho hb3 hgf he2 hpt HF3 HX3 c0 c1 c2 c3 f2 f3 d0 d1 hM hn
    go_wp2_with fail
    obtain ⟨p, hp⟩ : ∃ p, p = posL M (x, y) := ⟨_, rfl⟩
    have HPL := Lib.hid (show p ≤ n by rw [hp, HN.out]; exact posL_le _ _)
    have HPA := Lib.hid (show ∀ (j : Nat) (h : j < M.length), j < p → ahd M[j] (x, y) by rw [hp]; exact posL_ahd M (x, y))
    have HPS := Lib.hid (show ∀ h : p < M.length, ¬ ahd M[p] (x, y) by rw [hp]; exact posL_stop M (x, y))
    have HP := Lib.hid hp
    clear hp
    go_loopw [7] (fun i wr => ∃ k : Nat, k ≤ p ∧ i = .int .i64 k ∧ Hid (Fr w wr a len cap now l (w.heap.size + 1 + 1)) ∧ Hid (Bx wr (w.heap.size + 1) (.int .i64 x) (.int .i64 y)) ∧ Hid (Pt wr w3.heap.size w2.heap.size g n cap' now M)) (fun i _ => p - (intOf i).toNat)
    case atStart => exact ⟨0, by omega, rfl, HF4, HX4, HPT⟩
    case round =>
      obtain ⟨k, hk, rfl, HFR, HXR, HPR⟩ := hrel
      have hkn := HPL.out
      have hn60 := HML.out
      obtain ⟨c0, c1, clt⟩ := HPR.out.box
      obtain ⟨t0, t1, tlt⟩ := HXR.out
      go_upto_region 5 with fail
      go_cut [30] (fun s30 wx => s30 = .bool (decide (k < p)) ∧ Hid (Below wr.heap.size wr wx))
      case first =>
        by_cases hlt : (k : Int) < (n : Int)
        · have hkM : k < M.length := by have := HN.out; omega
          obtain ⟨e0, e1, _, _⟩ := HPR.out.own.cellAt k hkM
          have hbw : g < wr.heap.size := (World.ownsRow.lt HPR.out.own g rfl).2
          obtain ⟨x', hx'⟩ : ∃ x, x = M[k].1 := ⟨_, rfl⟩
          obtain ⟨y', hy'⟩ : ∃ y, y = M[k].2 := ⟨_, rfl⟩
          have HXY := Lib.hid (show M[k] = (x', y') by rw [hx', hy'])
          rw [← hx'] at e0
          rw [← hy'] at e1
          clear hx' hy'
          by_cases hah : ahd (x', y') (x, y)
          · have HAH := Lib.hid hah
            have hkp : k < p := by
              by_cases h : k < p
              · exact h
              · exfalso
                obtain rfl : k = p := by omega
                exact HPS.out hkM (by rw [HXY.out]; exact hah)
            have HKP := Lib.hid hkp
            clear hah hkp
            go_region_held3 (fun w' => w'.cell? ⟨w3.heap.size, 1, none⟩ = some (.slice (some ⟨g, 0, none⟩) n cap') ∧ w'.cell? ⟨g, k * 2, none⟩ = some (.int .i64 x') ∧ w'.cell? ⟨g, k * 2 + 1, none⟩ = some (.int .i64 y') ∧ w'.cell? ⟨w.heap.size + 1, 0, none⟩ = some (.int .i64 x) ∧ w'.cell? ⟨w.heap.size + 1, 1, none⟩ = some (.int .i64 y))
              (first
                | go_keep
                | (go_split_ands; exact ⟨below_keep hb9 (Nat.le_refl _) clt ‹_›, below_keep hb9 (Nat.le_refl _) hbw ‹_›, below_keep hb9 (Nat.le_refl _) hbw ‹_›, below_keep hb9 (Nat.le_refl _) tlt ‹_›, below_keep hb9 (Nat.le_refl _) tlt ‹_›⟩))
              (first | (go_at_call 48; refine (ahead_yes (x', y') (x, y) _ HAH.out).mono ?_; rintro e w9 ⟨rfl, hb9⟩))
            all_goals
              have HB9 := Lib.hid (bAfter (below_drew' (Below.refl _ _)) hb9 (Nat.le_refl _))
              have hdk : decide (k < p) = true := decide_eq_true HKP.out
              go_wp2_with fail
              go_meet
              exact ⟨by rw [hdk], HB9⟩
          · have HAH := Lib.hid hah
            have hkp : ¬ k < p := fun h => hah (by have := HPA.out k hkM h; rwa [HXY.out] at this)
            have HKP := Lib.hid hkp
            clear hah hkp
            go_region_held3 (fun w' => w'.cell? ⟨w3.heap.size, 1, none⟩ = some (.slice (some ⟨g, 0, none⟩) n cap') ∧ w'.cell? ⟨g, k * 2, none⟩ = some (.int .i64 x') ∧ w'.cell? ⟨g, k * 2 + 1, none⟩ = some (.int .i64 y') ∧ w'.cell? ⟨w.heap.size + 1, 0, none⟩ = some (.int .i64 x) ∧ w'.cell? ⟨w.heap.size + 1, 1, none⟩ = some (.int .i64 y))
              (first
                | go_keep
                | (go_split_ands; exact ⟨below_keep hb9 (Nat.le_refl _) clt ‹_›, below_keep hb9 (Nat.le_refl _) hbw ‹_›, below_keep hb9 (Nat.le_refl _) hbw ‹_›, below_keep hb9 (Nat.le_refl _) tlt ‹_›, below_keep hb9 (Nat.le_refl _) tlt ‹_›⟩))
              (first | (go_at_call 48; refine (ahead_no (x', y') (x, y) _ HAH.out).mono ?_; rintro e w9 ⟨rfl, hb9⟩))
            all_goals
              have HB9 := Lib.hid (bAfter (below_drew' (Below.refl _ _)) hb9 (Nat.le_refl _))
              have hdk : decide (k < p) = false := decide_eq_false HKP.out
              go_wp2_with fail
              go_meet
              exact ⟨by rw [hdk], HB9⟩
        · have hdn : decide ((k : Int) < (n : Int)) = false := by simp; omega
          have hdk : decide (k < p) = false := by simp; omega
          go_quiet (fail)
          have HB9 := Lib.hid (below_drewN (Below.refl wr.heap.size wr) nq)
          go_wp2_with fail
          go_meet
          exact ⟨by rw [hdk], HB9⟩
      case rest =>
        obtain ⟨rfl, HB9⟩ := hcut
        have HFR2 := Lib.hid (HFR.out.step HB9.out)
        have HXR2 := Lib.hid (HXR.out.below HB9.out)
        have HPR2 := Lib.hid (HPR.out.below HB9.out)
        clear c0 c1 clt t0 t1 tlt
        by_cases hkp : k < p
        · rw [decide_eq_true hkp]
          go_wp2_with fail
          go_roundw
          case rel => exact ⟨k + 1, by omega, by go_num, HFR2, HXR2, HPR2⟩
          case measure => simp [intOf]; omega
        · rw [decide_eq_false hkp]
          obtain rfl : k = p := by omega
          go_wp2_with fail
          obtain ⟨W, hW⟩ : ∃ W, W = wc := ⟨_, rfl⟩
          rw [← hW] at HFR2 HXR2 HPR2 ⊢
          clear hW
          obtain ⟨o, ho⟩ : ∃ o, o = w3.heap.size := ⟨_, rfl⟩
          have HOE := Lib.hid ho
          have HSW := Lib.hid (show w.heap.size + 1 + 1 < o by have := HSZ.out; omega)
          rw [← ho] at HPR2 ⊢
          clear ho
          obtain ⟨c0, c1, clt⟩ := HPR2.out.box
          obtain ⟨f0, f1⟩ := HPR2.out.fro
          obtain ⟨t0, t1, tlt⟩ := HXR2.out
          have hcp : n ≤ cap' := HPR2.out.own.le_cap
          have HTB := Lib.hid (show TIs o W (some ⟨g, 0, none⟩) n M by have h := HPR2.out.own.is.2; have e := HPR2.out.nM; rw [e]; exact h.block HPR2.out.go)
          have HTK := Lib.hid (tis_take HTB.out hkn)
          have HOW := Lib.hid (Nat.le_of_lt clt)
          have HLO := Lib.hid (show w.heap.size + 1 < o by have := HSW.out; omega)
          go_cut [] (fun wx => ∃ w4 a3 n3 c3, wx = w4.setCell ⟨o, 1, none⟩ (.slice a3 n3 c3) ∧ Hid (Below W.heap.size W w4) ∧ Hid (TOwn W.heap.size w4 28 (.slice a3 n3 c3) (M.take k ++ [(x, y)] ++ M.drop k)))
          case first =>
            have HTW := Lib.hid (show w.heap.size + 1 < W.heap.size from tlt)
            by_cases hck : cap' = k
            · obtain rfl : n = k := by omega
              obtain rfl : cap' = n := hck
              have HTD := Lib.hid (show TIs o W (some ⟨g, 0, none⟩) 0 (M.drop cap') by
                have hM0 : M.drop cap' = [] := List.drop_eq_nil_of_le (by have := HN.out; omega)
                rw [hM0]
                exact ⟨rfl, by unfold maxLen; omega, fun k hk => by simp at hk⟩)
              refine Rk.wp_region_K (k := 15) (S := fun w' => Below W.heap.size W w') (by kernel_rfl) (below_drew' (Below.refl _ _)) (fun hHeld => ?_)
              refine Rk.wpAnyK_take (i := 1) (oi := { dst := some _, op := _, type := _, pos := _, after := _, guard := _ }) (v := ?_) rfl (by kernel_rfl) (by kernel_rfl) (by kernel_rfl) (by kernel_rfl) (by kernel_rfl) (fun _ _ _ h => h) ?_ (by assumption) ?_
              rotate_left 1
              focus (refine Or.inl ⟨by rfl, ?_⟩; intro wq hSw; go_simp; try with_reducible rfl)
              try simp only [Act.put, List.setIfInBounds_toArray, List.set_cons_zero, List.set_cons_succ]
              refine Rk.wpAnyK_take (i := 2) (oi := { dst := some _, op := _, type := _, pos := _, after := _, guard := _ }) (v := ?_) rfl (by kernel_rfl) (by kernel_rfl) (by kernel_rfl) (by kernel_rfl) (by kernel_rfl) (fun _ _ _ h => h) ?_ (by assumption) ?_
              rotate_left 1
              focus (refine Or.inl ⟨by rfl, ?_⟩; intro wq hSw; have hce := (hSw.cell (p := ⟨o, 1, none⟩) clt).trans c1; go_simp; try with_reducible rfl)
              try simp only [Act.put, List.setIfInBounds_toArray, List.set_cons_zero, List.set_cons_succ]
              refine Rk.wpAnyK_take (i := 3) (oi := { dst := some _, op := _, type := _, pos := _, after := _, guard := _ }) (v := ?_) rfl (by kernel_rfl) (by kernel_rfl) (by kernel_rfl) (by kernel_rfl) (by kernel_rfl) (fun _ _ _ h => h) ?_ (by assumption) ?_
              rotate_left 1
              focus (refine Or.inl ⟨by rfl, ?_⟩; intro wq hSw; go_simp; try with_reducible rfl)
              try simp only [Act.put, List.setIfInBounds_toArray, List.set_cons_zero, List.set_cons_succ]
              refine Rk.wpAnyK_take (i := 4) (oi := { dst := some _, op := _, type := _, pos := _, after := _, guard := _ }) (v := ?_) rfl (by kernel_rfl) (by kernel_rfl) (by kernel_rfl) (by kernel_rfl) (by kernel_rfl) (fun _ _ _ h => h) ?_ (by assumption) ?_
              rotate_left 1
              focus (refine Or.inl ⟨by rfl, ?_⟩; intro wq hSw; go_simp; try with_reducible rfl)
              try simp only [Act.put, List.setIfInBounds_toArray, List.set_cons_zero, List.set_cons_succ]
              refine Rk.wpAnyK_take (i := 6) (oi := { dst := some _, op := _, type := _, pos := _, after := _, guard := _ }) (v := ?_) rfl (by kernel_rfl) (by kernel_rfl) (by kernel_rfl) (by kernel_rfl) (by kernel_rfl) (fun _ _ _ h => h) ?_ (by assumption) ?_
              rotate_left 1
              focus (refine Or.inl ⟨by rfl, ?_⟩; intro wq hSw; have hce := (hSw.cell (p := ⟨w.heap.size + 1, 0, none⟩) HTW.out).trans t0; have hce1 := (hSw.cell (p := ⟨w.heap.size + 1, 1, none⟩) HTW.out).trans t1; go_simp; try with_reducible rfl)
              try simp only [Act.put, List.setIfInBounds_toArray, List.set_cons_zero, List.set_cons_succ]
              refine Rk.wpAnyK_take (i := 9) (oi := { dst := some _, op := _, type := _, pos := _, after := _, guard := _ }) (v := ?_) rfl (by kernel_rfl) (by kernel_rfl) (by kernel_rfl) (by kernel_rfl) (by kernel_rfl) (fun _ _ _ h => h) ?_ (by assumption) ?_
              rotate_left 1
              focus (refine Or.inl ⟨by rfl, ?_⟩; intro wq hSw; go_simp; try with_reducible rfl)
              try simp only [Act.put, List.setIfInBounds_toArray, List.set_cons_zero, List.set_cons_succ]
              refine Rk.wpAnyK_take (i := 10) (oi := { dst := some _, op := _, type := _, pos := _, after := _, guard := _ }) (v := ?_) rfl (by kernel_rfl) (by kernel_rfl) (by kernel_rfl) (by kernel_rfl) (by kernel_rfl) (fun _ _ _ h => h) ?_ (by assumption) ?_
              rotate_left 1
              focus (refine Or.inl ⟨by rfl, ?_⟩; intro wq hSw; have hce := (hSw.cell (p := ⟨o, 1, none⟩) clt).trans c1; go_simp; try with_reducible rfl)
              try simp only [Act.put, List.setIfInBounds_toArray, List.set_cons_zero, List.set_cons_succ]
              refine Rk.wpAnyK_take (i := 11) (oi := { dst := some _, op := _, type := _, pos := _, after := _, guard := _ }) (v := ?_) rfl (by kernel_rfl) (by kernel_rfl) (by kernel_rfl) (by kernel_rfl) (by kernel_rfl) (fun _ _ _ h => h) ?_ (by assumption) ?_
              rotate_left 1
              focus (refine Or.inl ⟨by rfl, ?_⟩; intro wq hSw; go_simp; try with_reducible rfl)
              try simp only [Act.put, List.setIfInBounds_toArray, List.set_cons_zero, List.set_cons_succ]
              refine Rk.wpAnyK_take (i := 12) (oi := { dst := some _, op := _, type := _, pos := _, after := _, guard := _ }) (v := ?_) rfl (by kernel_rfl) (by kernel_rfl) (by kernel_rfl) (by kernel_rfl) (by kernel_rfl) (fun _ _ _ h => h) ?_ (by assumption) ?_
              rotate_left 1
              focus (refine Or.inl ⟨by rfl, ?_⟩; intro wq hSw; go_simp; try with_reducible rfl)
              try simp only [Act.put, List.setIfInBounds_toArray, List.set_cons_zero, List.set_cons_succ]
              refine Rk.wpAnyK_ready (rs := [0, 7]) (by kernel_rfl) (by simp) ?_
              refine Rk.AllReadyK.cons rfl (fun KK hKK => ?_) ?_
              · go_simp
                refine hKK.out _ _ (low_ad W _) (fun hHeld => ?_)
                clear hKK
                try simp only [Act.put, List.setIfInBounds_toArray, List.set_cons_zero, List.set_cons_succ]
                refine Rk.wpAnyK_ready (rs := [5, 7]) (by kernel_rfl) (by simp) ?_
                refine Rk.AllReadyK.cons rfl (fun KK hKK => ?_) ?_
                · refine step_append_run rfl (.tmp 33) (.tmp 37) _ rfl (.slice (some ⟨W.heap.size, 0, none⟩) 0 0) _ (by simp [Act.eval, Act.put]) (by simp [Act.eval, Act.put]) (app_tis (cap := cap') (tnil0 W) (tis_low HTK.out (low_ad W _) HOW.out) (fun e => by cases e) (by simp; omega) (low_ad W _).size) ?_
                  intro v1 x1 happ
                  obtain ⟨a1, n1, cp1, rfl⟩ := happ.form
                  have HO1 := Lib.hid happ.1
                  have hl1 := app_low (low_ad W _) (tnil0 W) happ

                  have HL1 := Lib.hid hl1
                  clear happ hl1
                  refine hKK.out _ _ HL1.out (fun hHeld => ?_)
                  clear hKK
                  try simp only [Act.put, List.setIfInBounds_toArray, List.set_cons_zero, List.set_cons_succ]
                  refine Rk.wpAnyK_ready (rs := [7]) (by kernel_rfl) (by simp) ?_
                  refine Rk.AllReadyK.cons rfl (fun KK hKK => ?_) Rk.AllReadyK.nil
                  go_simp
                  refine hKK.out _ _ (lowA HL1.out _) (fun hHeld => ?_)
                  clear hKK
                  try simp only [Act.put, List.setIfInBounds_toArray, List.set_cons_zero, List.set_cons_succ]
                  refine Rk.wpAnyK_ready (rs := [8]) (by kernel_rfl) (by simp) ?_
                  refine Rk.AllReadyK.cons rfl (fun KK hKK => ?_) Rk.AllReadyK.nil
                  refine step_append_run rfl (.tmp 38) (.tmp 40) _ rfl _ _ (by simp [Act.eval, Act.put]) (by simp [Act.eval, Act.put]) (app_tis (cap := 1) (HO1.out.below (bOne _ _)) (tis_one _ x y) (fun e => by cases e) (by simp; omega) (lowA HL1.out _).size) ?_
                  intro v2 x2 happ
                  obtain ⟨a2, n2, cp2, rfl⟩ := happ.form
                  have HO2 := Lib.hid happ.1
                  have hl2 := app_low (lowA HL1.out _) (HO1.out.below (bOne _ _)) happ

                  have HL2 := Lib.hid hl2
                  clear happ hl2
                  refine hKK.out _ _ HL2.out (fun hHeld => ?_)
                  clear hKK
                  try simp only [Act.put, List.setIfInBounds_toArray, List.set_cons_zero, List.set_cons_succ]
                  refine Rk.wpAnyK_ready (rs := [13]) (by kernel_rfl) (by simp) ?_
                  refine Rk.AllReadyK.cons rfl (fun KK hKK => ?_) Rk.AllReadyK.nil
                  refine step_append_run rfl (.tmp 41) (.tmp 45) _ rfl _ _ (by simp [Act.eval, Act.put]) (by simp [Act.eval, Act.put]) (app_tis (cap := 0) (a := some ⟨g, 0, none⟩) (HO2.out) (tis_low HTD.out HL2.out HOW.out) (fun e => by cases e) (by simp; omega) (HL2.out).size) ?_
                  intro v3 x3 happ
                  obtain ⟨a3, n3, cp3, rfl⟩ := happ.form
                  have HO3 := Lib.hid happ.1
                  have hl3 := app_low (HL2.out) (HO2.out) happ
                  have k3 := (hl3.cell (p := ⟨o, 1, none⟩) clt).trans c1
                  have q3 := (hl3.frozen (p := ⟨o, 1, none⟩) clt).trans f1
                  have l3 := Nat.lt_of_lt_of_le clt hl3.size
                  have HL3 := Lib.hid hl3
                  clear happ hl3
                  refine hKK.out _ _ HL3.out (fun hHeld => ?_)
                  clear hKK
                  try simp only [Act.put, List.setIfInBounds_toArray, List.set_cons_zero, List.set_cons_succ]
                  refine Rk.wpAnyK_take (i := 14) (oi := { dst := some _, op := _, type := _, pos := _, after := _, guard := _ }) (v := ?_) rfl (by kernel_rfl) (by kernel_rfl) (by kernel_rfl) (by kernel_rfl) (by kernel_rfl) (fun _ _ _ h => h) ?_ (by assumption) ?_
                  rotate_left 1
                  focus (refine Or.inl ⟨by rfl, ?_⟩; intro wq hSw; go_simp; try with_reducible rfl)
                  try simp only [Act.put, List.setIfInBounds_toArray, List.set_cons_zero, List.set_cons_succ]
                  refine Rk.wpAnyK_ready (rs := [15]) (by kernel_rfl) (by simp) ?_
                  refine Rk.AllReadyK.last rfl (fun KK hKK => ?_)
                  go_simp
                  refine hKK.out _ _ ?_
                  clear hKK
                  refine Rk.wpAnyK_done (by kernel_rfl) ?_ _
                  go_wp2_with fail
                  go_meet
                  exact ⟨_, _, _, _, rfl, HL3, HO3⟩
                · refine Rk.AllReadyK.cons rfl (fun KK hKK => ?_) Rk.AllReadyK.nil
                  go_simp
                  refine hKK.out _ _ (low_ad2 W _ _) (fun hHeld => ?_)
                  clear hKK
                  try simp only [Act.put, List.setIfInBounds_toArray, List.set_cons_zero, List.set_cons_succ]
                  refine Rk.wpAnyK_ready (rs := [5]) (by kernel_rfl) (by simp) ?_
                  refine Rk.AllReadyK.cons rfl (fun KK hKK => ?_) Rk.AllReadyK.nil
                  refine step_append_run rfl (.tmp 33) (.tmp 37) _ rfl (.slice (some ⟨W.heap.size, 0, none⟩) 0 0) _ (by simp [Act.eval, Act.put]) (by simp [Act.eval, Act.put]) (app_tis (cap := cap') ((tnil0 W).below (bOne _ _)) (tis_low HTK.out (low_ad2 W _ _) HOW.out) (fun e => by cases e) (by simp; omega) (low_ad2 W _ _).size) ?_
                  intro v1 x1 happ
                  obtain ⟨a1, n1, cp1, rfl⟩ := happ.form
                  have HO1 := Lib.hid happ.1
                  have hl1 := app_low (low_ad2 W _ _) ((tnil0 W).below (bOne _ _)) happ
                  have HE1 := Lib.hid (one_app (x := x) (y := y) (b := W.heap.size + 1) (tis_one1 W x y) happ (by simp [Value.ownBlock]))
                  have HL1 := Lib.hid hl1
                  clear happ hl1
                  refine hKK.out _ _ HL1.out (fun hHeld => ?_)
                  clear hKK
                  try simp only [Act.put, List.setIfInBounds_toArray, List.set_cons_zero, List.set_cons_succ]
                  refine Rk.wpAnyK_ready (rs := [8]) (by kernel_rfl) (by simp) ?_
                  refine Rk.AllReadyK.cons rfl (fun KK hKK => ?_) Rk.AllReadyK.nil
                  refine step_append_run rfl (.tmp 38) (.tmp 40) _ rfl _ _ (by simp [Act.eval, Act.put]) (by simp [Act.eval, Act.put]) (app_tis (cap := 1) (HO1.out) (HE1.out) (fun e => by cases e) (by simp; omega) (HL1.out).size) ?_
                  intro v2 x2 happ
                  obtain ⟨a2, n2, cp2, rfl⟩ := happ.form
                  have HO2 := Lib.hid happ.1
                  have hl2 := app_low (HL1.out) (HO1.out) happ

                  have HL2 := Lib.hid hl2
                  clear happ hl2
                  refine hKK.out _ _ HL2.out (fun hHeld => ?_)
                  clear hKK
                  try simp only [Act.put, List.setIfInBounds_toArray, List.set_cons_zero, List.set_cons_succ]
                  refine Rk.wpAnyK_ready (rs := [13]) (by kernel_rfl) (by simp) ?_
                  refine Rk.AllReadyK.cons rfl (fun KK hKK => ?_) Rk.AllReadyK.nil
                  refine step_append_run rfl (.tmp 41) (.tmp 45) _ rfl _ _ (by simp [Act.eval, Act.put]) (by simp [Act.eval, Act.put]) (app_tis (cap := 0) (a := some ⟨g, 0, none⟩) (HO2.out) (tis_low HTD.out HL2.out HOW.out) (fun e => by cases e) (by simp; omega) (HL2.out).size) ?_
                  intro v3 x3 happ
                  obtain ⟨a3, n3, cp3, rfl⟩ := happ.form
                  have HO3 := Lib.hid happ.1
                  have hl3 := app_low (HL2.out) (HO2.out) happ
                  have k3 := (hl3.cell (p := ⟨o, 1, none⟩) clt).trans c1
                  have q3 := (hl3.frozen (p := ⟨o, 1, none⟩) clt).trans f1
                  have l3 := Nat.lt_of_lt_of_le clt hl3.size
                  have HL3 := Lib.hid hl3
                  clear happ hl3
                  refine hKK.out _ _ HL3.out (fun hHeld => ?_)
                  clear hKK
                  try simp only [Act.put, List.setIfInBounds_toArray, List.set_cons_zero, List.set_cons_succ]
                  refine Rk.wpAnyK_take (i := 14) (oi := { dst := some _, op := _, type := _, pos := _, after := _, guard := _ }) (v := ?_) rfl (by kernel_rfl) (by kernel_rfl) (by kernel_rfl) (by kernel_rfl) (by kernel_rfl) (fun _ _ _ h => h) ?_ (by assumption) ?_
                  rotate_left 1
                  focus (refine Or.inl ⟨by rfl, ?_⟩; intro wq hSw; go_simp; try with_reducible rfl)
                  try simp only [Act.put, List.setIfInBounds_toArray, List.set_cons_zero, List.set_cons_succ]
                  refine Rk.wpAnyK_ready (rs := [15]) (by kernel_rfl) (by simp) ?_
                  refine Rk.AllReadyK.last rfl (fun KK hKK => ?_)
                  go_simp
                  refine hKK.out _ _ ?_
                  clear hKK
                  refine Rk.wpAnyK_done (by kernel_rfl) ?_ _
                  go_wp2_with fail
                  go_meet
                  exact ⟨_, _, _, _, rfl, HL3, HO3⟩
              · refine Rk.AllReadyK.cons rfl (fun KK hKK => ?_) Rk.AllReadyK.nil
                go_simp
                refine hKK.out _ _ (low_ad W _) (fun hHeld => ?_)
                clear hKK
                try simp only [Act.put, List.setIfInBounds_toArray, List.set_cons_zero, List.set_cons_succ]
                refine Rk.wpAnyK_ready (rs := [0]) (by kernel_rfl) (by simp) ?_
                refine Rk.AllReadyK.cons rfl (fun KK hKK => ?_) Rk.AllReadyK.nil
                go_simp
                refine hKK.out _ _ (low_ad2 W _ _) (fun hHeld => ?_)
                clear hKK
                try simp only [Act.put, List.setIfInBounds_toArray, List.set_cons_zero, List.set_cons_succ]
                refine Rk.wpAnyK_ready (rs := [5]) (by kernel_rfl) (by simp) ?_
                refine Rk.AllReadyK.cons rfl (fun KK hKK => ?_) Rk.AllReadyK.nil
                refine step_append_run rfl (.tmp 33) (.tmp 37) _ rfl (.slice (some ⟨W.heap.size + 1, 0, none⟩) 0 0) _ (by simp [Act.eval, Act.put]) (by simp [Act.eval, Act.put]) (app_tis (cap := cap') (tnil1 W _) (tis_low HTK.out (low_ad2 W _ _) HOW.out) (fun e => by cases e) (by simp; omega) (low_ad2 W _ _).size) ?_
                intro v1 x1 happ
                obtain ⟨a1, n1, cp1, rfl⟩ := happ.form
                have HO1 := Lib.hid happ.1
                have hl1 := app_low (low_ad2 W _ _) (tnil1 W _) happ
                have HE1 := Lib.hid (one_app (x := x) (y := y) (b := W.heap.size) (tis_one0 W x y) happ (by simp [Value.ownBlock]))
                have HL1 := Lib.hid hl1
                clear happ hl1
                refine hKK.out _ _ HL1.out (fun hHeld => ?_)
                clear hKK
                try simp only [Act.put, List.setIfInBounds_toArray, List.set_cons_zero, List.set_cons_succ]
                refine Rk.wpAnyK_ready (rs := [8]) (by kernel_rfl) (by simp) ?_
                refine Rk.AllReadyK.cons rfl (fun KK hKK => ?_) Rk.AllReadyK.nil
                refine step_append_run rfl (.tmp 38) (.tmp 40) _ rfl _ _ (by simp [Act.eval, Act.put]) (by simp [Act.eval, Act.put]) (app_tis (cap := 1) (HO1.out) (HE1.out) (fun e => by cases e) (by simp; omega) (HL1.out).size) ?_
                intro v2 x2 happ
                obtain ⟨a2, n2, cp2, rfl⟩ := happ.form
                have HO2 := Lib.hid happ.1
                have hl2 := app_low (HL1.out) (HO1.out) happ

                have HL2 := Lib.hid hl2
                clear happ hl2
                refine hKK.out _ _ HL2.out (fun hHeld => ?_)
                clear hKK
                try simp only [Act.put, List.setIfInBounds_toArray, List.set_cons_zero, List.set_cons_succ]
                refine Rk.wpAnyK_ready (rs := [13]) (by kernel_rfl) (by simp) ?_
                refine Rk.AllReadyK.cons rfl (fun KK hKK => ?_) Rk.AllReadyK.nil
                refine step_append_run rfl (.tmp 41) (.tmp 45) _ rfl _ _ (by simp [Act.eval, Act.put]) (by simp [Act.eval, Act.put]) (app_tis (cap := 0) (a := some ⟨g, 0, none⟩) (HO2.out) (tis_low HTD.out HL2.out HOW.out) (fun e => by cases e) (by simp; omega) (HL2.out).size) ?_
                intro v3 x3 happ
                obtain ⟨a3, n3, cp3, rfl⟩ := happ.form
                have HO3 := Lib.hid happ.1
                have hl3 := app_low (HL2.out) (HO2.out) happ
                have k3 := (hl3.cell (p := ⟨o, 1, none⟩) clt).trans c1
                have q3 := (hl3.frozen (p := ⟨o, 1, none⟩) clt).trans f1
                have l3 := Nat.lt_of_lt_of_le clt hl3.size
                have HL3 := Lib.hid hl3
                clear happ hl3
                refine hKK.out _ _ HL3.out (fun hHeld => ?_)
                clear hKK
                try simp only [Act.put, List.setIfInBounds_toArray, List.set_cons_zero, List.set_cons_succ]
                refine Rk.wpAnyK_take (i := 14) (oi := { dst := some _, op := _, type := _, pos := _, after := _, guard := _ }) (v := ?_) rfl (by kernel_rfl) (by kernel_rfl) (by kernel_rfl) (by kernel_rfl) (by kernel_rfl) (fun _ _ _ h => h) ?_ (by assumption) ?_
                rotate_left 1
                focus (refine Or.inl ⟨by rfl, ?_⟩; intro wq hSw; go_simp; try with_reducible rfl)
                try simp only [Act.put, List.setIfInBounds_toArray, List.set_cons_zero, List.set_cons_succ]
                refine Rk.wpAnyK_ready (rs := [15]) (by kernel_rfl) (by simp) ?_
                refine Rk.AllReadyK.last rfl (fun KK hKK => ?_)
                go_simp
                refine hKK.out _ _ ?_
                clear hKK
                refine Rk.wpAnyK_done (by kernel_rfl) ?_ _
                go_wp2_with fail
                go_meet
                exact ⟨_, _, _, _, rfl, HL3, HO3⟩
            · have HTD := Lib.hid (show TIs o W (some ⟨g, k * 2, none⟩) (n - k) (M.drop k) by
                have h := tis_drop HTB.out hkn
                simpa using h)
              have hck1 : k ≠ cap' := Ne.symm hck
              have hkc : k ≤ cap' := by omega
              refine Rk.wp_region_K (k := 15) (S := fun w' => Below W.heap.size W w') (by kernel_rfl) (below_drew' (Below.refl _ _)) (fun hHeld => ?_)
              refine Rk.wpAnyK_take (i := 1) (oi := { dst := some _, op := _, type := _, pos := _, after := _, guard := _ }) (v := ?_) rfl (by kernel_rfl) (by kernel_rfl) (by kernel_rfl) (by kernel_rfl) (by kernel_rfl) (fun _ _ _ h => h) ?_ (by assumption) ?_
              rotate_left 1
              focus (refine Or.inl ⟨by rfl, ?_⟩; intro wq hSw; go_simp; try with_reducible rfl)
              try simp only [Act.put, List.setIfInBounds_toArray, List.set_cons_zero, List.set_cons_succ]
              refine Rk.wpAnyK_take (i := 2) (oi := { dst := some _, op := _, type := _, pos := _, after := _, guard := _ }) (v := ?_) rfl (by kernel_rfl) (by kernel_rfl) (by kernel_rfl) (by kernel_rfl) (by kernel_rfl) (fun _ _ _ h => h) ?_ (by assumption) ?_
              rotate_left 1
              focus (refine Or.inl ⟨by rfl, ?_⟩; intro wq hSw; have hce := (hSw.cell (p := ⟨o, 1, none⟩) clt).trans c1; go_simp; try with_reducible rfl)
              try simp only [Act.put, List.setIfInBounds_toArray, List.set_cons_zero, List.set_cons_succ]
              refine Rk.wpAnyK_take (i := 3) (oi := { dst := some _, op := _, type := _, pos := _, after := _, guard := _ }) (v := ?_) rfl (by kernel_rfl) (by kernel_rfl) (by kernel_rfl) (by kernel_rfl) (by kernel_rfl) (fun _ _ _ h => h) ?_ (by assumption) ?_
              rotate_left 1
              focus (refine Or.inl ⟨by rfl, ?_⟩; intro wq hSw; go_simp; try with_reducible rfl)
              try simp only [Act.put, List.setIfInBounds_toArray, List.set_cons_zero, List.set_cons_succ]
              refine Rk.wpAnyK_take (i := 4) (oi := { dst := some _, op := _, type := _, pos := _, after := _, guard := _ }) (v := ?_) rfl (by kernel_rfl) (by kernel_rfl) (by kernel_rfl) (by kernel_rfl) (by kernel_rfl) (fun _ _ _ h => h) ?_ (by assumption) ?_
              rotate_left 1
              focus (refine Or.inl ⟨by rfl, ?_⟩; intro wq hSw; go_simp; try with_reducible rfl)
              try simp only [Act.put, List.setIfInBounds_toArray, List.set_cons_zero, List.set_cons_succ]
              refine Rk.wpAnyK_take (i := 6) (oi := { dst := some _, op := _, type := _, pos := _, after := _, guard := _ }) (v := ?_) rfl (by kernel_rfl) (by kernel_rfl) (by kernel_rfl) (by kernel_rfl) (by kernel_rfl) (fun _ _ _ h => h) ?_ (by assumption) ?_
              rotate_left 1
              focus (refine Or.inl ⟨by rfl, ?_⟩; intro wq hSw; have hce := (hSw.cell (p := ⟨w.heap.size + 1, 0, none⟩) HTW.out).trans t0; have hce1 := (hSw.cell (p := ⟨w.heap.size + 1, 1, none⟩) HTW.out).trans t1; go_simp; try with_reducible rfl)
              try simp only [Act.put, List.setIfInBounds_toArray, List.set_cons_zero, List.set_cons_succ]
              refine Rk.wpAnyK_take (i := 9) (oi := { dst := some _, op := _, type := _, pos := _, after := _, guard := _ }) (v := ?_) rfl (by kernel_rfl) (by kernel_rfl) (by kernel_rfl) (by kernel_rfl) (by kernel_rfl) (fun _ _ _ h => h) ?_ (by assumption) ?_
              rotate_left 1
              focus (refine Or.inl ⟨by rfl, ?_⟩; intro wq hSw; go_simp; try with_reducible rfl)
              try simp only [Act.put, List.setIfInBounds_toArray, List.set_cons_zero, List.set_cons_succ]
              refine Rk.wpAnyK_take (i := 10) (oi := { dst := some _, op := _, type := _, pos := _, after := _, guard := _ }) (v := ?_) rfl (by kernel_rfl) (by kernel_rfl) (by kernel_rfl) (by kernel_rfl) (by kernel_rfl) (fun _ _ _ h => h) ?_ (by assumption) ?_
              rotate_left 1
              focus (refine Or.inl ⟨by rfl, ?_⟩; intro wq hSw; have hce := (hSw.cell (p := ⟨o, 1, none⟩) clt).trans c1; go_simp; try with_reducible rfl)
              try simp only [Act.put, List.setIfInBounds_toArray, List.set_cons_zero, List.set_cons_succ]
              refine Rk.wpAnyK_take (i := 11) (oi := { dst := some _, op := _, type := _, pos := _, after := _, guard := _ }) (v := ?_) rfl (by kernel_rfl) (by kernel_rfl) (by kernel_rfl) (by kernel_rfl) (by kernel_rfl) (fun _ _ _ h => h) ?_ (by assumption) ?_
              rotate_left 1
              focus (refine Or.inl ⟨by rfl, ?_⟩; intro wq hSw; go_simp; try with_reducible rfl)
              try simp only [Act.put, List.setIfInBounds_toArray, List.set_cons_zero, List.set_cons_succ]
              refine Rk.wpAnyK_take (i := 12) (oi := { dst := some _, op := _, type := _, pos := _, after := _, guard := _ }) (v := ?_) rfl (by kernel_rfl) (by kernel_rfl) (by kernel_rfl) (by kernel_rfl) (by kernel_rfl) (fun _ _ _ h => h) ?_ (by assumption) ?_
              rotate_left 1
              focus (refine Or.inl ⟨by rfl, ?_⟩; intro wq hSw; go_simp; try with_reducible rfl)
              try simp only [Act.put, List.setIfInBounds_toArray, List.set_cons_zero, List.set_cons_succ]
              refine Rk.wpAnyK_ready (rs := [0, 7]) (by kernel_rfl) (by simp) ?_
              refine Rk.AllReadyK.cons rfl (fun KK hKK => ?_) ?_
              · go_simp
                refine hKK.out _ _ (low_ad W _) (fun hHeld => ?_)
                clear hKK
                try simp only [Act.put, List.setIfInBounds_toArray, List.set_cons_zero, List.set_cons_succ]
                refine Rk.wpAnyK_ready (rs := [5, 7]) (by kernel_rfl) (by simp) ?_
                refine Rk.AllReadyK.cons rfl (fun KK hKK => ?_) ?_
                · refine step_append_run rfl (.tmp 33) (.tmp 37) _ rfl (.slice (some ⟨W.heap.size, 0, none⟩) 0 0) _ (by simp [Act.eval, Act.put]) (by simp [Act.eval, Act.put]) (app_tis (cap := cap') (tnil0 W) (tis_low HTK.out (low_ad W _) HOW.out) (fun e => by cases e) (by simp; omega) (low_ad W _).size) ?_
                  intro v1 x1 happ
                  obtain ⟨a1, n1, cp1, rfl⟩ := happ.form
                  have HO1 := Lib.hid happ.1
                  have hl1 := app_low (low_ad W _) (tnil0 W) happ

                  have HL1 := Lib.hid hl1
                  clear happ hl1
                  refine hKK.out _ _ HL1.out (fun hHeld => ?_)
                  clear hKK
                  try simp only [Act.put, List.setIfInBounds_toArray, List.set_cons_zero, List.set_cons_succ]
                  refine Rk.wpAnyK_ready (rs := [7]) (by kernel_rfl) (by simp) ?_
                  refine Rk.AllReadyK.cons rfl (fun KK hKK => ?_) Rk.AllReadyK.nil
                  go_simp
                  refine hKK.out _ _ (lowA HL1.out _) (fun hHeld => ?_)
                  clear hKK
                  try simp only [Act.put, List.setIfInBounds_toArray, List.set_cons_zero, List.set_cons_succ]
                  refine Rk.wpAnyK_ready (rs := [8]) (by kernel_rfl) (by simp) ?_
                  refine Rk.AllReadyK.cons rfl (fun KK hKK => ?_) Rk.AllReadyK.nil
                  refine step_append_run rfl (.tmp 38) (.tmp 40) _ rfl _ _ (by simp [Act.eval, Act.put]) (by simp [Act.eval, Act.put]) (app_tis (cap := 1) (HO1.out.below (bOne _ _)) (tis_one _ x y) (fun e => by cases e) (by simp; omega) (lowA HL1.out _).size) ?_
                  intro v2 x2 happ
                  obtain ⟨a2, n2, cp2, rfl⟩ := happ.form
                  have HO2 := Lib.hid happ.1
                  have hl2 := app_low (lowA HL1.out _) (HO1.out.below (bOne _ _)) happ

                  have HL2 := Lib.hid hl2
                  clear happ hl2
                  refine hKK.out _ _ HL2.out (fun hHeld => ?_)
                  clear hKK
                  try simp only [Act.put, List.setIfInBounds_toArray, List.set_cons_zero, List.set_cons_succ]
                  refine Rk.wpAnyK_ready (rs := [13]) (by kernel_rfl) (by simp) ?_
                  refine Rk.AllReadyK.cons rfl (fun KK hKK => ?_) Rk.AllReadyK.nil
                  refine step_append_run rfl (.tmp 41) (.tmp 45) _ rfl _ _ (by simp [Act.eval, Act.put]) (by simp [Act.eval, Act.put]) (app_tis (cap := cap' - k) (a := some ⟨g, k * 2, none⟩) (HO2.out) (tis_low HTD.out HL2.out HOW.out) (fun e => by cases e) (by simp; omega) (HL2.out).size) ?_
                  intro v3 x3 happ
                  obtain ⟨a3, n3, cp3, rfl⟩ := happ.form
                  have HO3 := Lib.hid happ.1
                  have hl3 := app_low (HL2.out) (HO2.out) happ
                  have k3 := (hl3.cell (p := ⟨o, 1, none⟩) clt).trans c1
                  have q3 := (hl3.frozen (p := ⟨o, 1, none⟩) clt).trans f1
                  have l3 := Nat.lt_of_lt_of_le clt hl3.size
                  have HL3 := Lib.hid hl3
                  clear happ hl3
                  refine hKK.out _ _ HL3.out (fun hHeld => ?_)
                  clear hKK
                  try simp only [Act.put, List.setIfInBounds_toArray, List.set_cons_zero, List.set_cons_succ]
                  refine Rk.wpAnyK_take (i := 14) (oi := { dst := some _, op := _, type := _, pos := _, after := _, guard := _ }) (v := ?_) rfl (by kernel_rfl) (by kernel_rfl) (by kernel_rfl) (by kernel_rfl) (by kernel_rfl) (fun _ _ _ h => h) ?_ (by assumption) ?_
                  rotate_left 1
                  focus (refine Or.inl ⟨by rfl, ?_⟩; intro wq hSw; go_simp; try with_reducible rfl)
                  try simp only [Act.put, List.setIfInBounds_toArray, List.set_cons_zero, List.set_cons_succ]
                  refine Rk.wpAnyK_ready (rs := [15]) (by kernel_rfl) (by simp) ?_
                  refine Rk.AllReadyK.last rfl (fun KK hKK => ?_)
                  go_simp
                  refine hKK.out _ _ ?_
                  clear hKK
                  refine Rk.wpAnyK_done (by kernel_rfl) ?_ _
                  go_wp2_with fail
                  go_meet
                  exact ⟨_, _, _, _, rfl, HL3, HO3⟩
                · refine Rk.AllReadyK.cons rfl (fun KK hKK => ?_) Rk.AllReadyK.nil
                  go_simp
                  refine hKK.out _ _ (low_ad2 W _ _) (fun hHeld => ?_)
                  clear hKK
                  try simp only [Act.put, List.setIfInBounds_toArray, List.set_cons_zero, List.set_cons_succ]
                  refine Rk.wpAnyK_ready (rs := [5]) (by kernel_rfl) (by simp) ?_
                  refine Rk.AllReadyK.cons rfl (fun KK hKK => ?_) Rk.AllReadyK.nil
                  refine step_append_run rfl (.tmp 33) (.tmp 37) _ rfl (.slice (some ⟨W.heap.size, 0, none⟩) 0 0) _ (by simp [Act.eval, Act.put]) (by simp [Act.eval, Act.put]) (app_tis (cap := cap') ((tnil0 W).below (bOne _ _)) (tis_low HTK.out (low_ad2 W _ _) HOW.out) (fun e => by cases e) (by simp; omega) (low_ad2 W _ _).size) ?_
                  intro v1 x1 happ
                  obtain ⟨a1, n1, cp1, rfl⟩ := happ.form
                  have HO1 := Lib.hid happ.1
                  have hl1 := app_low (low_ad2 W _ _) ((tnil0 W).below (bOne _ _)) happ
                  have HE1 := Lib.hid (one_app (x := x) (y := y) (b := W.heap.size + 1) (tis_one1 W x y) happ (by simp [Value.ownBlock]))
                  have HL1 := Lib.hid hl1
                  clear happ hl1
                  refine hKK.out _ _ HL1.out (fun hHeld => ?_)
                  clear hKK
                  try simp only [Act.put, List.setIfInBounds_toArray, List.set_cons_zero, List.set_cons_succ]
                  refine Rk.wpAnyK_ready (rs := [8]) (by kernel_rfl) (by simp) ?_
                  refine Rk.AllReadyK.cons rfl (fun KK hKK => ?_) Rk.AllReadyK.nil
                  refine step_append_run rfl (.tmp 38) (.tmp 40) _ rfl _ _ (by simp [Act.eval, Act.put]) (by simp [Act.eval, Act.put]) (app_tis (cap := 1) (HO1.out) (HE1.out) (fun e => by cases e) (by simp; omega) (HL1.out).size) ?_
                  intro v2 x2 happ
                  obtain ⟨a2, n2, cp2, rfl⟩ := happ.form
                  have HO2 := Lib.hid happ.1
                  have hl2 := app_low (HL1.out) (HO1.out) happ

                  have HL2 := Lib.hid hl2
                  clear happ hl2
                  refine hKK.out _ _ HL2.out (fun hHeld => ?_)
                  clear hKK
                  try simp only [Act.put, List.setIfInBounds_toArray, List.set_cons_zero, List.set_cons_succ]
                  refine Rk.wpAnyK_ready (rs := [13]) (by kernel_rfl) (by simp) ?_
                  refine Rk.AllReadyK.cons rfl (fun KK hKK => ?_) Rk.AllReadyK.nil
                  refine step_append_run rfl (.tmp 41) (.tmp 45) _ rfl _ _ (by simp [Act.eval, Act.put]) (by simp [Act.eval, Act.put]) (app_tis (cap := cap' - k) (a := some ⟨g, k * 2, none⟩) (HO2.out) (tis_low HTD.out HL2.out HOW.out) (fun e => by cases e) (by simp; omega) (HL2.out).size) ?_
                  intro v3 x3 happ
                  obtain ⟨a3, n3, cp3, rfl⟩ := happ.form
                  have HO3 := Lib.hid happ.1
                  have hl3 := app_low (HL2.out) (HO2.out) happ
                  have k3 := (hl3.cell (p := ⟨o, 1, none⟩) clt).trans c1
                  have q3 := (hl3.frozen (p := ⟨o, 1, none⟩) clt).trans f1
                  have l3 := Nat.lt_of_lt_of_le clt hl3.size
                  have HL3 := Lib.hid hl3
                  clear happ hl3
                  refine hKK.out _ _ HL3.out (fun hHeld => ?_)
                  clear hKK
                  try simp only [Act.put, List.setIfInBounds_toArray, List.set_cons_zero, List.set_cons_succ]
                  refine Rk.wpAnyK_take (i := 14) (oi := { dst := some _, op := _, type := _, pos := _, after := _, guard := _ }) (v := ?_) rfl (by kernel_rfl) (by kernel_rfl) (by kernel_rfl) (by kernel_rfl) (by kernel_rfl) (fun _ _ _ h => h) ?_ (by assumption) ?_
                  rotate_left 1
                  focus (refine Or.inl ⟨by rfl, ?_⟩; intro wq hSw; go_simp; try with_reducible rfl)
                  try simp only [Act.put, List.setIfInBounds_toArray, List.set_cons_zero, List.set_cons_succ]
                  refine Rk.wpAnyK_ready (rs := [15]) (by kernel_rfl) (by simp) ?_
                  refine Rk.AllReadyK.last rfl (fun KK hKK => ?_)
                  go_simp
                  refine hKK.out _ _ ?_
                  clear hKK
                  refine Rk.wpAnyK_done (by kernel_rfl) ?_ _
                  go_wp2_with fail
                  go_meet
                  exact ⟨_, _, _, _, rfl, HL3, HO3⟩
              · refine Rk.AllReadyK.cons rfl (fun KK hKK => ?_) Rk.AllReadyK.nil
                go_simp
                refine hKK.out _ _ (low_ad W _) (fun hHeld => ?_)
                clear hKK
                try simp only [Act.put, List.setIfInBounds_toArray, List.set_cons_zero, List.set_cons_succ]
                refine Rk.wpAnyK_ready (rs := [0]) (by kernel_rfl) (by simp) ?_
                refine Rk.AllReadyK.cons rfl (fun KK hKK => ?_) Rk.AllReadyK.nil
                go_simp
                refine hKK.out _ _ (low_ad2 W _ _) (fun hHeld => ?_)
                clear hKK
                try simp only [Act.put, List.setIfInBounds_toArray, List.set_cons_zero, List.set_cons_succ]
                refine Rk.wpAnyK_ready (rs := [5]) (by kernel_rfl) (by simp) ?_
                refine Rk.AllReadyK.cons rfl (fun KK hKK => ?_) Rk.AllReadyK.nil
                refine step_append_run rfl (.tmp 33) (.tmp 37) _ rfl (.slice (some ⟨W.heap.size + 1, 0, none⟩) 0 0) _ (by simp [Act.eval, Act.put]) (by simp [Act.eval, Act.put]) (app_tis (cap := cap') (tnil1 W _) (tis_low HTK.out (low_ad2 W _ _) HOW.out) (fun e => by cases e) (by simp; omega) (low_ad2 W _ _).size) ?_
                intro v1 x1 happ
                obtain ⟨a1, n1, cp1, rfl⟩ := happ.form
                have HO1 := Lib.hid happ.1
                have hl1 := app_low (low_ad2 W _ _) (tnil1 W _) happ
                have HE1 := Lib.hid (one_app (x := x) (y := y) (b := W.heap.size) (tis_one0 W x y) happ (by simp [Value.ownBlock]))
                have HL1 := Lib.hid hl1
                clear happ hl1
                refine hKK.out _ _ HL1.out (fun hHeld => ?_)
                clear hKK
                try simp only [Act.put, List.setIfInBounds_toArray, List.set_cons_zero, List.set_cons_succ]
                refine Rk.wpAnyK_ready (rs := [8]) (by kernel_rfl) (by simp) ?_
                refine Rk.AllReadyK.cons rfl (fun KK hKK => ?_) Rk.AllReadyK.nil
                refine step_append_run rfl (.tmp 38) (.tmp 40) _ rfl _ _ (by simp [Act.eval, Act.put]) (by simp [Act.eval, Act.put]) (app_tis (cap := 1) (HO1.out) (HE1.out) (fun e => by cases e) (by simp; omega) (HL1.out).size) ?_
                intro v2 x2 happ
                obtain ⟨a2, n2, cp2, rfl⟩ := happ.form
                have HO2 := Lib.hid happ.1
                have hl2 := app_low (HL1.out) (HO1.out) happ

                have HL2 := Lib.hid hl2
                clear happ hl2
                refine hKK.out _ _ HL2.out (fun hHeld => ?_)
                clear hKK
                try simp only [Act.put, List.setIfInBounds_toArray, List.set_cons_zero, List.set_cons_succ]
                refine Rk.wpAnyK_ready (rs := [13]) (by kernel_rfl) (by simp) ?_
                refine Rk.AllReadyK.cons rfl (fun KK hKK => ?_) Rk.AllReadyK.nil
                refine step_append_run rfl (.tmp 41) (.tmp 45) _ rfl _ _ (by simp [Act.eval, Act.put]) (by simp [Act.eval, Act.put]) (app_tis (cap := cap' - k) (a := some ⟨g, k * 2, none⟩) (HO2.out) (tis_low HTD.out HL2.out HOW.out) (fun e => by cases e) (by simp; omega) (HL2.out).size) ?_
                intro v3 x3 happ
                obtain ⟨a3, n3, cp3, rfl⟩ := happ.form
                have HO3 := Lib.hid happ.1
                have hl3 := app_low (HL2.out) (HO2.out) happ
                have k3 := (hl3.cell (p := ⟨o, 1, none⟩) clt).trans c1
                have q3 := (hl3.frozen (p := ⟨o, 1, none⟩) clt).trans f1
                have l3 := Nat.lt_of_lt_of_le clt hl3.size
                have HL3 := Lib.hid hl3
                clear happ hl3
                refine hKK.out _ _ HL3.out (fun hHeld => ?_)
                clear hKK
                try simp only [Act.put, List.setIfInBounds_toArray, List.set_cons_zero, List.set_cons_succ]
                refine Rk.wpAnyK_take (i := 14) (oi := { dst := some _, op := _, type := _, pos := _, after := _, guard := _ }) (v := ?_) rfl (by kernel_rfl) (by kernel_rfl) (by kernel_rfl) (by kernel_rfl) (by kernel_rfl) (fun _ _ _ h => h) ?_ (by assumption) ?_
                rotate_left 1
                focus (refine Or.inl ⟨by rfl, ?_⟩; intro wq hSw; go_simp; try with_reducible rfl)
                try simp only [Act.put, List.setIfInBounds_toArray, List.set_cons_zero, List.set_cons_succ]
                refine Rk.wpAnyK_ready (rs := [15]) (by kernel_rfl) (by simp) ?_
                refine Rk.AllReadyK.last rfl (fun KK hKK => ?_)
                go_simp
                refine hKK.out _ _ ?_
                clear hKK
                refine Rk.wpAnyK_done (by kernel_rfl) ?_ _
                go_wp2_with fail
                go_meet
                exact ⟨_, _, _, _, rfl, HL3, HO3⟩
          case rest =>
            obtain ⟨w4, a3, n3, c3, rfl, HB4, HO4⟩ := hcut
            have hS : M.take k ++ [(x, y)] ++ M.drop k = setL l (x, y) := by
              unfold setL
              rw [HP.out, HM.out]
              simp
            rw [hS] at HO4
            obtain ⟨S, hSS⟩ : ∃ S, S = setL l (x, y) := ⟨_, rfl⟩
            have HSS := Lib.hid hSS
            rw [← hSS] at HO4
            have hn3 : n3 = S.length := by
              obtain ⟨a', c', e⟩ := HO4.out.shape
              simp only [Value.slice.injEq] at e
              exact e.2.1
            subst hn3
            have hb5 : Below o W (w4.setCell ⟨o, 1, none⟩ (.slice a3 S.length c3)) := (HB4.out.mono HOW.out).setCell (Nat.le_refl _) _
            have ho5 : TOwn W.heap.size (w4.setCell ⟨o, 1, none⟩ (.slice a3 S.length c3)) 28 (.slice a3 S.length c3) S := HO4.out.setLow clt _
            have e0 : (w4.setCell ⟨o, 1, none⟩ (.slice a3 S.length c3)).cell? ⟨o, 0, none⟩ = some (.int .i64 now) := by
              rw [World.cell?_setCell_other _ _ _ _ (by simp)]
              exact (HB4.out.cell (p := ⟨o, 0, none⟩) clt).trans c0
            have e1 : (w4.setCell ⟨o, 1, none⟩ (.slice a3 S.length c3)).cell? ⟨o, 1, none⟩ = some (.slice a3 S.length c3) :=
              World.cell?_setCell_same' _ _ _ (by rw [(HB4.out.cell (p := ⟨o, 1, none⟩) clt).trans c1]; rfl)
            obtain ⟨w5, hw5⟩ : ∃ w5, w5 = w4.setCell ⟨o, 1, none⟩ (.slice a3 S.length c3) := ⟨_, rfl⟩
            rw [← hw5] at hb5 ho5 e0 e1 ⊢
            have HF5 := Lib.hid (HFR2.out.low' hb5 HSW.out)
            have HB5 := Lib.hid hb5
            have HO5 := Lib.hid ho5
            have holt : o < w5.heap.size := Nat.lt_of_lt_of_le clt (by have := HB4.out.size; rw [hw5]; simpa using this)
            clear hw5 hb5 ho5 hSS hS HB4 HO4 c0 c1 f0 f1 t0 t1 tlt clt hcp
            have HC0 := Lib.hid e0
            have HC1 := Lib.hid e1
            have HLT := Lib.hid holt
            go_wp2_with fail
            refine (specWheelOk_any w5 a3 S.length c3 now S HO5.out.is.2).mono ?_
            rintro e w6 ⟨rfl, hb6⟩
            have HF6 := Lib.hid (HF5.out.step hb6)
            have HO6 := Lib.hid (HO5.out.below hb6)
            have HLOW := Lib.hid (HF5.out.low)
            clear e0 e1
            have e0 := (hb6.cell (p := ⟨o, 0, none⟩) HLT.out).trans HC0.out
            have e1 := (hb6.cell (p := ⟨o, 1, none⟩) HLT.out).trans HC1.out
            obtain ⟨c0, c1, c2, c3', f2, f3⟩ := HF6.out.cells
            have hBW : o ≤ W.heap.size := HOW.out
            have HBW := Lib.hid hBW
            have HR := Lib.hid HFR2.out.b1.lt
            by_cases hok2 : WOk now S
            · rw [wokB_true hok2]
              have HDR := Lib.hid (setB_yes (t := (x, y)) HOK.out (by rw [← HSS.out]; exact hok2))
              have HEND := Lib.hid (fun u v => HFR2.out.end_ (HB5.out.trans (hb6.mono (Nat.le_trans HBW.out (by have := HB5.out.size; omega)))) HSW.out HBW.out HO6.out u v)
              clear hok2 hb6 hBW holt
              go_wp2_with fail
              exact bodyPost_ret (v := .tuple #[.agg #[.int .i64 now, .slice a3 S.length c3], .bool true]) (by simp [results, Tryd.results14, go_sem, c2, c3']) rfl (by rw [setR_yes HDR.out, HDR.out, ← HSS.out]; exact ⟨⟨a3, c3, rfl, (HEND.out _ _).1⟩, (HEND.out _ _).2⟩)
            · rw [wokB_false hok2]
              have HDR := Lib.hid (setB_no2 (t := (x, y)) (l := l) (by rw [← HSS.out]; exact hok2))
              clear hok2 hb6 hBW holt
              go_wp2_with fail
              refine (l02Copy_any w6 a len cap now l HF6.out.tis hlen hcap).mono ?_
              rintro e w7 ⟨⟨a', cap', rfl, ho⟩, hb7⟩
              have HF7 := Lib.hid (HF6.out.step hb7)
              have HEND := Lib.hid (fun x y => HF6.out.end_ hb7 HF6.out.b1.lt (Nat.le_refl _) ho x y)
              clear ho hb7 c0 c1 c2 c3' f2 f3
              obtain ⟨c0, c1, c2, c3', f2, f3⟩ := HF7.out.cells
              go_wp2_with fail
              exact bodyPost_ret (v := .tuple #[.agg #[.int .i64 now, .slice a' l.length cap'], .bool false]) (by simp [results, Tryd.results14, go_sem, c2, c3']) rfl (by rw [setR_no HDR.out, HDR.out]; exact ⟨⟨a', cap', rfl, (HEND.out _ _).1⟩, (HEND.out _ _).2⟩)
  · have HDR := Lib.hid (setB_no1 (x, y) hok)
    rw [wokB_false hok]
    clear hok
    go_wp2_with fail
    refine (l02Copy_any w2 a len cap now l HF2.out.tis hlen hcap).mono ?_
    rintro e w3 ⟨⟨a', cap', rfl, ho⟩, hb3⟩
    have HF3 := Lib.hid (HF2.out.step hb3)
    have HEND := Lib.hid (fun x y => HF2.out.end_ hb3 HF2.out.b1.lt (Nat.le_refl _) ho x y)
    clear ho hb3 c0 c1 c2 c3 f2 f3 d0 d1
    obtain ⟨c0, c1, c2, c3, f2, f3⟩ := HF3.out.cells
    go_wp2_with fail
    exact bodyPost_ret (v := .tuple #[.agg #[.int .i64 now, .slice a' l.length cap'], .bool false]) (by simp [results, Tryd.results14, go_sem, c2, c3]) rfl (by rw [setR_no HDR.out, HDR.out]; exact ⟨⟨a', cap', rfl, (HEND.out _ _).1⟩, (HEND.out _ _).2⟩)
end Go.Proofs.YtkoliacbajpijaaDoor.Whl
