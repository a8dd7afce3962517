/-
  The wheel's slots in memory: release.
-/
import Derived.Test.YtkoliacbajpijaaDoorSltB
import Derived.Test.YtkoliacbajpijaaDoorSrtW
namespace Go.Proofs.YtkoliacbajpijaaDoor.Whl
open Go.RowKit Go.Maps
set_option linter.unusedVariables false

/-- 'delete(m, k)' at a step of a region that draws its order -/
theorem step_delete {P : Program} {ops : Array Oper} {o : Oper} {a : Act} {w : World} {K : Act → World → Prop} {Q : Exit → Act → World → Prop} {E : Prop} (hgd : o.guard = none) (m x : Operand) (t k : TypeId)
    (hop : o.op = Op.call { callee := Callee.builtin Builtin.delete, args := #[m, x], argTypes := #[t, k] })
    (e : TypeId) (KK : Keyed P k) (ht : P.underlying t = some (.map k e)) (R : Value → Option (DataW Unit × List MemPlace)) (b n : Nat) (D : DataW Unit)
    (hm : a.eval m = .map (some b)) (hown : w.ownsMap P k R b n D) (key : Value) (kl : Lit) (hx : a.eval x = key) (hkey : keyOf P k key = some kl)
    (hK : ∀ w', w'.ownsMap P k R b n (D.del kl) → w.grownBy w' (some b) → K (a.put o.dst (.tuple #[])) w') :
    if Region.wanted o (yielded ops a.tmps) = true then Oper.wp P o a w K Q else E := by
  have hw : Region.wanted o (yielded ops a.tmps) = true := by simp [Region.wanted, hgd]
  rw [if_pos hw]
  obtain ⟨w', hrun, r1, r2⟩ := hown.drop KK ht hkey o.type
  unfold Oper.wp
  simp [execOp, hop, resolve, invoke, builtin, hm, hx, hrun, Result.andThen]
  exact hK w' r1 r2.grown

/-- without these ids -/
def delAll (D : DataW Unit) (l : List T) : DataW Unit := l.foldl (fun D t => D.del (.int .i64 t.2)) D
theorem delAll_snoc (D : DataW Unit) (l : List T) (t : T) : delAll D (l ++ [t]) = (delAll D l).del (.int .i64 t.2) := by simp [delAll]

set_option maxRecDepth 100000 in
set_option maxHeartbeats 2000000 in
theorem release_walk (w : World) (B b bm : Nat) (C : Nat → Option Value) (Fr : Nat → Bool) (n g cap : Nat) (D : DataW Unit) (d : List T)
    (hS : SB w b C Fr) (hm : C 326 = some (.map (some bm))) (hown : TOwn B w 28 (.slice (some ⟨g, 0, none⟩) d.length cap) d) (hmap : w.ownsMap Tryd.prog 3 (plainElem Tryd.prog 3) bm n D)
    (hgb : g ≠ b) (hbm : bm ≠ b) (hd : d.length ≤ 1000000) (hwf : ∀ t ∈ d, (Lit.int .i64 t.2).wf = true) :
    Calls Tryd.prog 68 #[.pointer (some ⟨b, 0, none⟩), .slice (some ⟨g, 0, none⟩) d.length cap] w fun e w' => e = .returned (.slice (some ⟨g, 0, none⟩) d.length cap) ∧
      SB w' b C Fr ∧ w'.ownsMap Tryd.prog 3 (plainElem Tryd.prog 3) bm n (delAll D d) ∧ (∃ d' : List T, d'.length = d.length ∧ d'.Perm d ∧ d'.Pairwise (fun x y => ¬ ahd y x) ∧ TOwn B w' 28 (.slice (some ⟨g, 0, none⟩) d.length cap) d') ∧ Kp w w' b bm (some g) := by
  have hgm : g ≠ bm := fun e => own_not_map hown hmap e
  obtain ⟨len, hlen⟩ : ∃ len, len = d.length := ⟨_, rfl⟩
  have HLEN := Lib.hid hlen
  rw [← hlen] at hown hd ⊢
  have HS := Lib.hid hS
  have HCM := Lib.hid hm
  have HO := Lib.hid hown
  have HM := Lib.hid hmap
  have HWF := Lib.hid hwf
  clear hS hm hown hmap hwf hlen
  go_enter Tryd.func68, Tryd.ntmps68
  go_wp2_with fail
  go_loopw [9] (fun i wr => ∃ k : Nat, k ≤ len ∧ i = .int .i64 k ∧ Hid (SB wr b C Fr) ∧ Hid (TOwn B wr 28 (.slice (some ⟨g, 0, none⟩) len cap) d) ∧ Hid (wr.ownsMap Tryd.prog 3 (plainElem Tryd.prog 3) bm n (delAll D (d.take k))) ∧ Hid (Kp w wr b bm (some g))) (fun i _ => len - (intOf i).toNat)
  case atStart => exact ⟨0, by omega, rfl, HS, HO, HM, Lib.hid (Kp.refl _ _ _ _)⟩
  case round =>
    obtain ⟨k, hk, rfl, HSr, HOr, HMr, HKr⟩ := hrel
    by_cases hlt : (k : Int) < (len : Int)
    · have hkl : k < d.length := by have := HLEN.out; omega
      obtain ⟨c0, c1, f0, f1⟩ := HOr.out.cellAt k hkl
      obtain ⟨x, hx⟩ : ∃ x, x = d[k].1 := ⟨_, rfl⟩
      obtain ⟨y, hy⟩ : ∃ y, y = d[k].2 := ⟨_, rfl⟩
      rw [← hx] at c0
      rw [← hy] at c1
      have HY := Lib.hid hy
      have HKEY := Lib.hid (keyOf_int_mk (P := Tryd.prog) Tryd.underlying3 (HWF.out d[k] (List.getElem_mem hkl)))
      rw [← hy] at HKEY
      clear hx hy f0 f1
      have HB1 := Lib.hid (bOne wr (.cells #[.int .i64 x, .int .i64 y] 28))
      have HX1 := Lib.hid (Bx.new wr (.int .i64 x) (.int .i64 y) 28)
      have HS1 := Lib.hid ((HSr.out.below HB1.out).drew)
      have HO1 := Lib.hid ((HOr.out.below HB1.out).grown (World.grownBy_drew' _ none) (.inr (by simp [Value.ownBlock])))
      have HM1 := Lib.hid ((HMr.out.alloc (.cells #[.int .i64 x, .int .i64 y] 28)).drew)
      have HK1 := Lib.hid ((HKr.out.below HB1.out).drew)
      have km := ((HSr.out.below HB1.out).cell 326).trans HCM.out
      obtain ⟨x0, x1, xlt⟩ := HX1.out
      go_wp2_with fail
      go_region_law (refine step_delete rfl _ _ _ _ rfl 3 keyInt Tryd.underlying70 _ bm n _ (by simp [Act.eval]) HM1.out (.int .i64 y) _ (by simp [Act.eval]) HKEY.out ?_; intro w2 hmap2 hg2)
      all_goals
        have HS2 := Lib.hid (HS1.out.grown hg2 (by simpa using hbm))
        have HO2 := Lib.hid (HO1.out.grown hg2 (.inr (by simpa [Value.ownBlock] using hgm)))
        have HM2 := Lib.hid (show w2.ownsMap Tryd.prog 3 (plainElem Tryd.prog 3) bm n (delAll D (d.take (k + 1))) by
          rw [List.take_succ_eq_append_getElem hkl, delAll_snoc, ← HY.out]; exact hmap2)
        have HK2 := Lib.hid (HK1.out.grown hg2 (fun k hk e => .inr (.inl (by injection e with e; exact e.symm))))
        clear hmap2 hg2 c0 c1 km x0 x1 xlt
        go_wp2_with fail
        go_roundw
        case rel => exact ⟨k + 1, by omega, by go_num, HS2, HO2, HM2, HK2⟩
        case measure => simp [intOf]; omega
    · have hkk : k = d.length := by have := HLEN.out; omega
      have HMF := Lib.hid (show wr.ownsMap Tryd.prog 3 (plainElem Tryd.prog 3) bm n (delAll D d) by
        have := HMr.out; rwa [hkk, List.take_length] at this)
      have hsort := sort_any B wr g cap d (by have := HOr.out; rwa [HLEN.out] at this) (by have := HLEN.out; omega)
      rw [← HLEN.out] at hsort
      have HSO := Lib.hid hsort
      clear hsort hkk
      go_wp2_with fail
      refine HSO.out.mono ?_
      rintro e w2 ⟨rfl, ⟨d', hl', hp', hs', ho'⟩, hg2⟩
      go_wp2_with fail
      go_ret
      exact ⟨rfl, HSr.out.grown hg2 (by simpa using hgb), HMF.out.kept hg2 (by simpa using Ne.symm hgm), ⟨d', by rw [hl', HLEN.out], hp', hs', ho'⟩, HKr.out.grown hg2 (fun k hk e => .inr (.inr e))⟩
end Go.Proofs.YtkoliacbajpijaaDoor.Whl
