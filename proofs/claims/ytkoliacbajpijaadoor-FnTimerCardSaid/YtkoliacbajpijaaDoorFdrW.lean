/-
  The walk of the law FnDrop.
-/
import Derived.Test.YtkoliacbajpijaaDoorDwhW
import Derived.Test.YtkoliacbajpijaaDoorMriW
import Derived.Test.YtkoliacbajpijaaDoorBig
import Derived.IntWalk
namespace Go.Proofs.YtkoliacbajpijaaDoor.Whl
open Go.RowKit Go.Maps Go.Proofs.YtkoliacbajpijaaDoor.Kit Go.Proofs.YtkoliacbajpijaaDoor.Draw
set_option linter.unusedVariables false
set_option linter.unusedSimpArgs false

theorem drpR_len (now : Int) (l : List T) (id : Int) : (drpR now l id).length ≤ l.length := by
  unfold drpR
  split
  · exact List.length_filter_le _ _
  · exact Nat.le_refl _
theorem dropL_twice (l : List T) (id : Int) : dropL (dropL l id) id = dropL l id := dropL_none (fun t ht => (dropL_mem.1 ht).2)
theorem dropL_many : ∀ {l : List T} {id : Int}, (l.map Prod.snd).Nodup → l.length ≤ (dropL l id).length + 1
  | [], id, _ => by simp
  | t :: l, id, h => by
    simp only [List.map_cons, List.nodup_cons] at h
    by_cases e : t.2 = id
    · have h1 : dropL (t :: l) id = l := by
        have : dropL (t :: l) id = dropL l id := by simp [dropL, e]
        rw [this]
        exact dropL_none (fun x hx hxe => h.1 (List.mem_map.2 ⟨x, hx, by rw [hxe, e]⟩))
      rw [h1]
      simp
    · have h1 : dropL (t :: l) id = t :: dropL l id := by simp [dropL, e]
      rw [h1]
      have := dropL_many (id := id) h.2
      simp
      omega
theorem wf_small {z : Int} (h0 : -1000000000000 ≤ z) (h1 : z ≤ 1000000000000) : (Lit.int .i64 z).wf = true := i64_lit z (by unfold isI64; omega)

set_option maxRecDepth 100000 in
set_option maxHeartbeats 4000000 in
theorem fnDrop_walk (w : World) (a0 : Option Addr) (len0 cap0 : Nat) (zs : List Int) (hrow : IsRow .u8 w a0 len0 cap0 zs) (hT : TabD w) :
    Calls Tryd.prog 4 #[.slice a0 len0 cap0] w fun e w' => e = .returned (.bool true) ∧ Below w.heap.size w w' := by
  have hcode := hrow.code
  have hle := hcode.le
  have HC := Lib.hid hcode
  have HT := Lib.hid hT
  have HTL := Lib.hid hT.lt
  have HLE := Lib.hid hle
  clear hrow hcode hT hle
  go_enter Tryd.func4, Tryd.ntmps4
  by_cases hbig : (1048576 : Int) < (len0 : Int)
  · go_wp2_with fail
    refine (big_yes _ a0 len0 cap0 HLE.out hbig).mono ?_
    rintro e w' ⟨rfl, rfl⟩
    go_wp2_with fail
    go_ret
    exact ⟨rfl, Below.refl _ _⟩
  go_wp2_with fail
  refine (big_no _ a0 len0 cap0 HLE.out (by omega)).mono ?_
  rintro e w' ⟨rfl, rfl⟩
  clear hbig
  go_wp2_with fail
  refine (drawDrop_draw _ w.heap.size a0 len0 cap0 HC.out (Nat.le_refl _)).mono ?_
  rintro e w1 ⟨now, a, n, cap, l, id, rfl, hdw, hy0, hy1, hb1⟩
  obtain rfl : n = l.length := hdw.len
  have HW := Lib.hid (Wb.new hdw.own hb1.size now)
  have HL62 := Lib.hid hdw.le
  have HL1 := Lib.hid (low_alloc hb1 (.cells #[.int .i64 now, .slice a l.length cap] 26))
  have HID := Lib.hid (wf_small (z := id) (by omega) (by omega))
  clear hdw hb1
  obtain ⟨c0, c1, lt0⟩ := HW.out.cells
  go_wp2_with fail
  refine (dropTimer_any _ a l.length cap now l id HW.out.is (by have := HL62.out; omega) HID.out (HT.out.below HL1.out HTL.out)).mono ?_
  rintro e w2 ⟨⟨a2, cap2, rfl, ho2⟩, hb2⟩
  obtain ⟨S, hS⟩ : ∃ S, S = drpR now l id := ⟨_, rfl⟩
  have HS := Lib.hid hS
  have HSL := Lib.hid (show S.length ≤ 62 by rw [hS]; exact Nat.le_trans (drpR_len now l id) HL62.out)
  rw [← hS] at ho2 ⊢
  have HV2 := Lib.hid (Wb.new ho2 hb2.size now)
  have HW2 := Lib.hid ((HW.out.below hb2).below (bOne w2 (.cells #[.int .i64 now, .slice a2 S.length cap2] 26)))
  have HL2 := Lib.hid (low_alloc (low_after HL1.out hb2) (.cells #[.int .i64 now, .slice a2 S.length cap2] 26))
  clear ho2 hb2 hS c0 c1 lt0 HW HL1
  go_wp2_with fail
  refine (drawNext_draw _ w.heap.size a0 len0 cap0 (HC.out.below HL2.out) HL2.out.size).mono ?_
  rintro e w3 ⟨nx, ax, mx, capx, lx, rfl, hdx, hb3⟩
  obtain rfl : mx = lx.length := hdx.len
  have HX := Lib.hid (Wb.new hdx.own hb3.size nx)
  have HV3 := Lib.hid ((HV2.out.below hb3).below (bOne w3 (.cells #[.int .i64 nx, .slice ax lx.length capx] 26)))
  have HW3 := Lib.hid ((HW2.out.below hb3).below (bOne w3 (.cells #[.int .i64 nx, .slice ax lx.length capx] 26)))
  have HL3 := Lib.hid (low_alloc (low_after HL2.out hb3) (.cells #[.int .i64 nx, .slice ax lx.length capx] 26))
  clear hdx hb3 HV2 HW2 HL2
  go_upto_region 6 with fail
  obtain ⟨V, hV⟩ : ∃ V, V = w3.alloc (.cells #[.int .i64 nx, .slice ax lx.length capx] 26) := ⟨_, rfl⟩
  rw [← hV] at HX HV3 HW3 HL3 ⊢
  clear hV
  obtain ⟨kw, hkw⟩ : ∃ k, k = w1.heap.size := ⟨_, rfl⟩
  obtain ⟨kv, hkv⟩ : ∃ k, k = w2.heap.size := ⟨_, rfl⟩
  obtain ⟨kx, hkx⟩ : ∃ k, k = w3.heap.size := ⟨_, rfl⟩
  rw [← hkw] at HW3 ⊢
  rw [← hkv] at HV3 ⊢
  rw [← hkx] at HX ⊢
  clear hkw hkv hkx
  obtain ⟨q, hq⟩ : ∃ q, q = nextL lx := ⟨_, rfl⟩
  have HQ := Lib.hid hq
  clear hq
  have HKS := Lib.hid (fun w' (h : Below V.heap.size V w') => And.intro (HV3.out.box.below h).c0 (And.intro (HV3.out.box.below h).c1 (And.intro (HW3.out.box.below h).c0 (And.intro (HW3.out.box.below h).c1 (And.intro (HX.out.box.below h).c0 (And.intro (HX.out.box.below h).c1 (h)))))))
  have HD := Lib.hid (show Below V.heap.size V V.drew from below_drew' (Below.refl _ _))
  go_region_held3 (fun w' => w'.cell? ⟨kv, 0, none⟩ = some (.int .i64 now) ∧ w'.cell? ⟨kv, 1, none⟩ = some (.slice a2 S.length cap2) ∧ w'.cell? ⟨kw, 0, none⟩ = some (.int .i64 now) ∧ w'.cell? ⟨kw, 1, none⟩ = some (.slice a l.length cap) ∧ w'.cell? ⟨kx, 0, none⟩ = some (.int .i64 nx) ∧ w'.cell? ⟨kx, 1, none⟩ = some (.slice ax lx.length capx) ∧ Below V.heap.size V w')
    (first
      | exact HKS.out _ HD.out
      | exact HKS.out _ HLA.out
      | exact HKS.out _ HLB.out
      | exact HKS.out _ HLC.out
      | exact HKS.out _ HLD.out)
    (first
      | (go_at_call 22; refine (specDropTimer_any' _ a l.length cap now l id (HW3.out.below ((‹_ ∧ _ ∧ _ ∧ _ ∧ _ ∧ _ ∧ Below V.heap.size V _›).2.2.2.2.2.2)).is (by have := HL62.out; omega) HW3.out.own.nilcap).mono ?_; rintro e wA ⟨⟨⟨aA, capA, rfl, hoA⟩, hbA⟩, -⟩; rw [← HS.out] at hoA ⊢; have HLA := Lib.hid (low_after ((‹_ ∧ _ ∧ _ ∧ _ ∧ _ ∧ _ ∧ Below V.heap.size V _›).2.2.2.2.2.2) hbA))
      | (go_at_call 15; refine (sameWheel_yes _ _ a2 aA S.length cap2 capA now S (HV3.out.below ((‹_ ∧ _ ∧ _ ∧ _ ∧ _ ∧ _ ∧ Below V.heap.size V _›).2.2.2.2.2.2)).is hoA.isN (by have := HSL.out; omega) (Nat.le_refl _)).mono ?_; rintro e wB ⟨rfl, hbB⟩; have HLB := Lib.hid (low_after ((‹_ ∧ _ ∧ _ ∧ _ ∧ _ ∧ _ ∧ Below V.heap.size V _›).2.2.2.2.2.2) hbB))
      | (go_at_call 19; refine (nextTimer_any _ _ ax lx.length capx nx lx (HX.out.below ((‹_ ∧ _ ∧ _ ∧ _ ∧ _ ∧ _ ∧ Below V.heap.size V _›).2.2.2.2.2.2)).is (Nat.le_refl _)).mono ?_; rintro e wC ⟨rfl, hbC⟩; rw [← HQ.out]; have HLC := Lib.hid (low_after ((‹_ ∧ _ ∧ _ ∧ _ ∧ _ ∧ _ ∧ Below V.heap.size V _›).2.2.2.2.2.2) hbC))
      | (go_at_call 23; refine (specNextTimer_any _ _ ax lx.length capx nx lx (HX.out.below ((‹_ ∧ _ ∧ _ ∧ _ ∧ _ ∧ _ ∧ Below V.heap.size V _›).2.2.2.2.2.2)).is (Nat.le_refl _)).mono ?_; rintro e wD ⟨rfl, hbD⟩; rw [← HQ.out]; have HLD := Lib.hid (low_after ((‹_ ∧ _ ∧ _ ∧ _ ∧ _ ∧ _ ∧ Below V.heap.size V _›).2.2.2.2.2.2) hbD)))
  have HW4 := Lib.hid (HW3.out.below HLD.out)
  have HV4 := Lib.hid (HV3.out.below HLD.out)
  have HL4 := Lib.hid (low_after HL3.out HLD.out)
  clear HW3 HV3 HL3 HX hbA hbB hbC hbD hoA HLA HLB HLC HLD HKS HD
  obtain ⟨c0, c1, lt0⟩ := HV4.out.cells
  obtain ⟨d0, d1, lt1⟩ := HW4.out.cells
  go_wp2_with fail
  refine (specWheelOk_any _ a l.length cap now l HW4.out.is).mono ?_
  rintro e w5 ⟨rfl, hb5⟩
  have HW5 := Lib.hid (HW4.out.below hb5)
  have HV5 := Lib.hid (HV4.out.below hb5)
  have HL5 := Lib.hid (low_after HL4.out hb5)
  clear HW4 HV4 HL4 hb5 c0 c1 lt0 d0 d1 lt1
  obtain ⟨c0, c1, lt0⟩ := HV5.out.cells
  obtain ⟨d0, d1, lt1⟩ := HW5.out.cells
  by_cases hok : WOk now l
  · rw [wokB_true hok]
    have hSe : S = dropL l id := by rw [HS.out, drpR_ok hok]
    have HNE := Lib.hid (show ∀ (j : Nat) (h : j < S.length), S[j].2 ≠ id from fun j h => by
      have h1 : S[j] ∈ dropL l id := by rw [← hSe]; exact List.getElem_mem h
      exact (dropL_mem.1 h1).2)
    have hge : (l.length : Int) - 1 ≤ (S.length : Int) := by
      have := dropL_many (id := id) hok.ids
      rw [← hSe] at this
      omega
    have HSS := Lib.hid (show drpR now S id = S by rw [hSe, drpR_ok (hok.drop id), dropL_twice])
    have HOS := Lib.hid (show wokB now S = true by rw [hSe]; exact wokB_true (hok.drop id))
    have HGE := Lib.hid hge
    clear hok hSe hge
    go_wp2_with fail
    go_loop [7] (fun i => ∃ j : Nat, j ≤ S.length ∧ i = .int .i64 j) (fun i => S.length - (intOf i).toNat)
    case atStart => exact ⟨0, by omega, rfl⟩
    case round =>
      obtain ⟨j, hj, rfl⟩ := hrel
      have hs62 := HSL.out
      by_cases hlt : (j : Int) < (S.length : Int)
      · have hjl : j < S.length := by omega
        obtain ⟨b', off, rfl, hbw, e0, e1⟩ := HV5.out.is.cell j hjl
        obtain ⟨x, hx⟩ : ∃ x, x = S[j].1 := ⟨_, rfl⟩
        obtain ⟨y, hy⟩ : ∃ y, y = S[j].2 := ⟨_, rfl⟩
        have hne : (y == id) = false := by have := HNE.out j hjl; rw [hy]; simpa using this
        rw [← hx] at e0
        rw [← hy] at e1
        clear hx hy
        go_wp2_with fail
        go_round
        case rel => exact ⟨j + 1, by omega, by go_num⟩
        case measure => simp [intOf]; omega
      · have hjl : j = S.length := by omega
        subst hjl
        clear c0 c1 lt0 d0 d1 lt1
        obtain ⟨c0, c1, lt0⟩ := HV5.out.cells
        go_upto_region 15 with fail
        have hge := HGE.out
        have hge2 : (l.length : Int) ≤ (S.length : Int) + 1 := by omega
        have hl62 := HL62.out
        have hwr : IntKind.i64.wrap ((l.length : Int) - 1) = (l.length : Int) - 1 := IntWalk.i64_in _ (by omega)
        have hd1 : decide ((l.length : Int) - 1 ≤ (S.length : Int)) = true := by simpa using hge
        have HKS := Lib.hid (fun w' (h : Below w5.heap.size w5 w') => And.intro (HV5.out.box.below h).c0 (And.intro (HV5.out.box.below h).c1 (And.intro (HW5.out.box.below h).c0 (And.intro (HW5.out.box.below h).c1 (h)))))
        have HD := Lib.hid (show Below w5.heap.size w5 w5.drew from below_drew' (Below.refl _ _))
        go_region_held3 (fun w' => w'.cell? ⟨kv, 0, none⟩ = some (.int .i64 now) ∧ w'.cell? ⟨kv, 1, none⟩ = some (.slice a2 S.length cap2) ∧ w'.cell? ⟨kw, 0, none⟩ = some (.int .i64 now) ∧ w'.cell? ⟨kw, 1, none⟩ = some (.slice a l.length cap) ∧ Below w5.heap.size w5 w')
          (first
            | exact HKS.out _ HD.out
            | exact HKS.out _ HLA.out
            | exact HKS.out _ HLB.out
            | exact HKS.out _ HLC.out)
          (first
            | (go_at_call 16; refine (wheelOk_any _ a2 S.length cap2 now S (HV5.out.below ((‹_ ∧ _ ∧ _ ∧ _ ∧ Below w5.heap.size w5 _›).2.2.2.2)).is).mono ?_; rintro e wA ⟨he, hbA⟩; rw [HOS.out] at he; subst he; have HLA := Lib.hid (low_after ((‹_ ∧ _ ∧ _ ∧ _ ∧ Below w5.heap.size w5 _›).2.2.2.2) hbA))
            | (go_at_call 18; refine (dropTimer_any _ a2 S.length cap2 now S id (HV5.out.below ((‹_ ∧ _ ∧ _ ∧ _ ∧ Below w5.heap.size w5 _›).2.2.2.2)).is (by have := HSL.out; omega) HID.out (HT.out.below (low_after HL5.out ((‹_ ∧ _ ∧ _ ∧ _ ∧ Below w5.heap.size w5 _›).2.2.2.2)) HTL.out)).mono ?_; rintro e wB ⟨⟨aB, capB, rfl, hoB⟩, hbB⟩; rw [HSS.out] at hoB ⊢; have HLB := Lib.hid (low_after ((‹_ ∧ _ ∧ _ ∧ _ ∧ Below w5.heap.size w5 _›).2.2.2.2) hbB))
            | (go_at_call 15; refine (sameWheel_yes _ _ aB a2 S.length capB cap2 now S hoB.isN (HV5.out.below ((‹_ ∧ _ ∧ _ ∧ _ ∧ Below w5.heap.size w5 _›).2.2.2.2)).is (by have := HSL.out; omega) (Nat.le_refl _)).mono ?_; rintro e wC ⟨rfl, hbC⟩; have HLC := Lib.hid (low_after ((‹_ ∧ _ ∧ _ ∧ _ ∧ Below w5.heap.size w5 _›).2.2.2.2) hbC)))
        have HL6 := Lib.hid (low_after HL5.out HLC.out)
        go_wp2_with fail
        go_ret
        exact ⟨rfl, HL6.out⟩
  · rw [wokB_false hok]
    obtain rfl : S = l := by rw [HS.out, drpR_not hok]
    clear hok
    go_wp2_with fail
    refine (sameWheel_yes _ _ a2 a S.length cap2 cap now S HV5.out.is HW5.out.is (by have := HSL.out; omega) (Nat.le_refl _)).mono ?_
    rintro e w6 ⟨rfl, hb6⟩
    have HL6 := Lib.hid (low_after HL5.out hb6)
    clear hb6
    go_wp2_with fail
    go_ret
    exact ⟨rfl, HL6.out⟩
end Go.Proofs.YtkoliacbajpijaaDoor.Whl
