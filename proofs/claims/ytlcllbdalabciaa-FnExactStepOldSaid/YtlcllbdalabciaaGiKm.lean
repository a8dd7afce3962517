/-
  ticker.late.
-/
import Derived.Test.YtlcllbdalabciaaGiJm
namespace Go.Proofs.Ytlcllbdalabciaa.Gat
open Go.RowKit
open Lnk (bOne bAfter IOwn IIs YOwn YIs below_keep below_drew' bcell low_after low_alloc grown_of_below latL latI)
set_option linter.unusedVariables false
set_option linter.unusedSimpArgs false

theorem inj_backE {E : List Ev} (h : Inj E) (ids : List Int) : Inj (backE E ids) := by
  rw [backE_eq ids h]
  exact inj_map h _ (fun e => bkI_id ids e)
theorem inj_lateEs {now : Int} {K : List Lk} {E : List Ev} {j : Nat} (h : Inj E) : Inj (lateEs now K E j) := by
  unfold lateEs
  generalize K.take j = L
  induction L generalizing E with
  | nil => exact h
  | cons k L ih => rw [List.foldl_cons]; exact ih (inj_backE h _)
theorem latL_len' (now : Int) (up : Bool) (ep sq : Int) (l : List (Int × Int × Int)) : (latL up ep sq l now).length ≤ l.length := by
  unfold latL
  split
  · exact List.length_filter_le _ _
  · exact Nat.le_refl _
theorem small_lateKs {now : Int} {K : List Lk} {j : Nat} (h : ∀ k ∈ K, k.l.length ≤ 1048576) : ∀ k ∈ lateKs now K j, k.l.length ≤ 1048576 := by
  intro k hk
  unfold lateKs at hk
  rcases List.mem_append.1 hk with hk | hk
  · obtain ⟨k', hk', rfl⟩ := List.mem_map.1 hk
    refine Nat.le_trans ?_ (h k' (List.mem_of_mem_take hk'))
    exact latL_len' now k'.up k'.ep k'.sq k'.l
  · exact h k (List.mem_of_mem_drop hk)
theorem lateKs_at (now : Int) (K : List Lk) (j : Nat) (h : j < K.length) (h' : j < (lateKs now K j).length) : (lateKs now K j)[j] = K[j] := by
  have e : ((K.take j).map (lateK now)).length = j := by simp; omega
  have h3 : (lateKs now K j)[j]? = K[j]? := by unfold lateKs; rw [List.getElem?_append_right (by omega), e, Nat.sub_self, List.getElem?_drop, Nat.add_zero]
  rw [List.getElem?_eq_getElem h', List.getElem?_eq_getElem h] at h3
  injection h3

set_option maxRecDepth 100000 in
set_option maxHeartbeats 8000000 in
theorem tkLate_any (w : World) (B kb : Nat) (de qu wi ti qa bu le pb pc pj pt nw la : Int) (ea : Option Addr) (ec : Nat) (ka : Option Addr) (kc : Nat) (tu : Int) (fa : Option Addr) (fc : Nat) (ra : Option Addr) (rc : Nat) (tk ac dr dw : Int) (vs : List Value) (E : List Ev) (K : List Lk) (F R : List Int) (hx : Box w kb 76 ([.int .i64 de, .int .i64 qu, .int .i64 wi, .int .i64 ti, .int .i64 qa, .int .i64 bu, .int .i64 le, .int .i64 pb, .int .i64 pc, .int .i64 pj, .int .i64 pt, .int .i64 nw, .int .i64 la, .slice ea E.length ec, .slice ka K.length kc, .int .i64 tu, .slice fa F.length fc, .slice ra R.length rc, .int .i64 tk, .int .i64 ac, .int .i64 dr] ++ [.int .i64 dw, .slice none 0 0])) (h : GOwn B w (.slice ea E.length ec) (.slice ka K.length kc) (.slice fa F.length fc) (.slice ra R.length rc) vs E K F R) (hB : B ≤ w.heap.size) (hs : Small E.length K.length F.length R.length K) (hkd : (K.length : Int) = de) (hde : de ≤ 1000) (hij : Inj E) :
    Calls Try.prog 58 #[.pointer (some ⟨kb, 0, none⟩)] w fun e w' => e = .returned (.tuple #[]) ∧ Box w' kb 76 ([.int .i64 de, .int .i64 qu, .int .i64 wi, .int .i64 ti, .int .i64 qa, .int .i64 bu, .int .i64 le, .int .i64 pb, .int .i64 pc, .int .i64 pj, .int .i64 pt, .int .i64 nw, .int .i64 la, .slice ea E.length ec, .slice ka K.length kc, .int .i64 tu, .slice fa F.length fc, .slice ra R.length rc, .int .i64 tk, .int .i64 ac, .int .i64 dr] ++ [.int .i64 dw, .slice none 0 0]) ∧ (∃ vs', GOwn B w' (.slice ea E.length ec) (.slice ka K.length kc) (.slice fa F.length fc) (.slice ra R.length rc) vs' (lateEs nw K E K.length) (K.map (lateK nw)) F R) ∧ Below B w w' := by
  have hmf : ∀ (fn : Fn) (first cap : Array Value) (w : World), (Instr.makeFunc fn first cap).run Try.prog w = .ok (.func fn first cap) w := fun _ _ _ _ => rfl
  obtain ⟨W0, hW0⟩ : ∃ W, W = w.alloc (.cells #[.pointer (some ⟨kb, 0, none⟩)] 79) := ⟨_, rfl⟩
  have hb := bOne w (.cells #[.pointer (some ⟨kb, 0, none⟩)] 79)
  have HP : Hid (Box W0 w.heap.size 79 [.pointer (some ⟨kb, 0, none⟩)]) := Lib.hid (by rw [hW0]; exact Box.new w [.pointer (some ⟨kb, 0, none⟩)] 79)
  rw [← hW0] at hb
  have HX := Lib.hid (hx.below hb)
  have HO := Lib.hid (h.below hb)
  have HL := Lib.hid (hb.mono hB)
  have HBW := Lib.hid (Nat.le_trans hB hb.size)
  have HWE := Lib.hid hW0
  have HSM := Lib.hid hs
  have HIJ := Lib.hid hij
  obtain ⟨kx, hkx⟩ : ∃ k, k = w.heap.size := ⟨_, rfl⟩
  rw [← hkx] at HP
  clear hx h hb hW0 hs hij
  go_enter Try.func58, Try.ntmps58
  go_upto_region 1 with fail
  rw [← HWE.out, ← hkx]
  clear HWE hkx
  have p0 := HP.out.cell 0 _ rfl
  have c14 := HX.out.cell 14 _ rfl
  go_wp2_with fail
  clear p0 c14
  go_loopw [10] (fun i wr => ∃ (j : Nat) (EJ : List Ev) (KJ : List Lk) (vs : List Value), j ≤ K.length ∧ i = .int .i64 j ∧ Hid (EJ = lateEs nw K E j) ∧ Hid (KJ = lateKs nw K j) ∧ Hid (Box wr kb 76 ([.int .i64 de, .int .i64 qu, .int .i64 wi, .int .i64 ti, .int .i64 qa, .int .i64 bu, .int .i64 le, .int .i64 pb, .int .i64 pc, .int .i64 pj, .int .i64 pt, .int .i64 nw, .int .i64 la, .slice ea EJ.length ec, .slice ka KJ.length kc, .int .i64 tu, .slice fa F.length fc, .slice ra R.length rc, .int .i64 tk, .int .i64 ac, .int .i64 dr] ++ [.int .i64 dw, .slice none 0 0])) ∧ Hid (Box wr kx 79 [.pointer (some ⟨kb, 0, none⟩)]) ∧ Hid (GOwn B wr (.slice ea EJ.length ec) (.slice ka KJ.length kc) (.slice fa F.length fc) (.slice ra R.length rc) vs EJ KJ F R) ∧ Hid (Below B w wr) ∧ Hid (B ≤ wr.heap.size)) (fun i _ => K.length - (intOf i).toNat)
  case atStart => exact ⟨0, E, K, vs, by omega, rfl, Lib.hid rfl, Lib.hid (lateKs_zero nw K).symm, HX, HP, HO, HL, HBW⟩
  case round =>
    obtain ⟨j, EJ, KJ, vs, hj, rfl, HEJ, HKJ, HX, HP, HO, HL, HBW⟩ := hrel
    have HLE := Lib.hid (show EJ.length = E.length by rw [HEJ.out, lateEs_len])
    have HLK := Lib.hid (show KJ.length = K.length by rw [HKJ.out, lateKs_len])
    by_cases hlt : (j : Int) < (K.length : Int)
    · have hjl : j < K.length := by omega
      have hjk : j < KJ.length := by have := HLK.out; omega
      have HSJ := Lib.hid (show Small EJ.length KJ.length F.length R.length KJ from ⟨by rw [HLE.out]; exact HSM.out.1, by rw [HLK.out]; exact HSM.out.2.1, by rw [HKJ.out]; exact small_lateKs HSM.out.2.2.1, HSM.out.2.2.2.1, HSM.out.2.2.2.2⟩)
      have HKK := Lib.hid (show KJ[j] = K[j] by have h1 : ∀ (M : List Lk) (hM : j < M.length), M = lateKs nw K j → M[j] = K[j] := (fun M hM e => by subst e; exact lateKs_at nw K j hjl hM); exact h1 KJ hjk HKJ.out)
      have HIN := Lib.hid (show inB 1 de ((j : Int) + 1) = true by unfold inB; simp; omega)
      have p0 := HP.out.cell 0 _ rfl
      have HP0 := Lib.hid p0
      have HN0 := Lib.hid (HX.out.cell 11 _ rfl)
      have HKD := Lib.hid (show (KJ.length : Int) = de by rw [HLK.out]; exact hkd)
      have hkn : K.length ≤ 1048576 := HSM.out.2.1
      go_wp2_with fail
      clear p0
      refine (relink1_any 101 ⟨kx, 0, none⟩ (lateK nw) (lateI nw) wr B kb 76 [.int .i64 dw, .slice none 0 0] de qu wi ti qa bu le pb pc pj pt nw la ea ec ka kc tu fa fc ra rc tk ac dr vs EJ KJ F R ((j : Int) + 1) HX.out rfl HO.out HBW.out HSJ.out HKD.out hde (enters_of Try.func101 (by kernel_rfl) rfl) (lateI_len nw) (fun w1 k fa0 fl fc0 hb hy hl => lateFn_any w1 kx kb nw k.up k.ep k.sq fa0 fl fc0 k.l ((hb.cell (p := ⟨kx, 0, none⟩) (World.block_lt_of_cell? _ _ HP0.out)).trans HP0.out) ((hb.cell (p := ⟨kb, 11, none⟩) (World.block_lt_of_cell? _ _ HN0.out)).trans HN0.out) hy hl)).mono ?_
      rintro e w3 ⟨rfl, hx, ⟨vs', ho⟩, hl, hk⟩
      have HE2 := Lib.hid (show relE (lateI nw) (inB 1 de ((j : Int) + 1)) KJ EJ ((j : Int) + 1) = lateEs nw K E (j + 1) by
        rw [HIN.out, relE_at hjk rfl HKK.out, lateEs_step nw K E j hjl rfl, HEJ.out, backE_eq _ (inj_lateEs HIJ.out)])
      have HK2 := Lib.hid (show conK (lateK nw) (inB 1 de ((j : Int) + 1)) KJ ((j : Int) + 1) = lateKs nw K (j + 1) by
        rw [HIN.out, conK_at hjk rfl HKK.out, HKJ.out, lateKs_step nw K j hjl rfl])
      rw [HE2.out, HK2.out] at ho
      replace HP := Lib.hid (hk.box HP.out rfl)
      replace HL := Lib.hid (HL.out.trans hl)
      replace HBW := Lib.hid (Nat.le_trans HBW.out hl.size)
      replace HX := Lib.hid hx
      replace HO := Lib.hid ho
      clear hx ho hl hk hjk HP0 HN0 HE2 HK2 HIN HKK HKD HSJ
      rw [HLE.out, HLK.out] at HX HO
      go_wp2_with fail
      go_roundw
      case rel => exact ⟨j + 1, lateEs nw K E (j + 1), lateKs nw K (j + 1), vs', by omega, by go_num, Lib.hid rfl, Lib.hid rfl, Lib.hid (by rw [lateEs_len, lateKs_len]; exact HX.out), HP, Lib.hid (by rw [lateEs_len, lateKs_len]; exact HO.out), HL, HBW⟩
      case measure => simp [intOf]; omega
    · obtain rfl : j = K.length := by omega
      have HFX := Lib.hid (show Box wr kb 76 ([.int .i64 de, .int .i64 qu, .int .i64 wi, .int .i64 ti, .int .i64 qa, .int .i64 bu, .int .i64 le, .int .i64 pb, .int .i64 pc, .int .i64 pj, .int .i64 pt, .int .i64 nw, .int .i64 la, .slice ea E.length ec, .slice ka K.length kc, .int .i64 tu, .slice fa F.length fc, .slice ra R.length rc, .int .i64 tk, .int .i64 ac, .int .i64 dr] ++ [.int .i64 dw, .slice none 0 0]) by have h1 := HX.out; rw [HLE.out, HLK.out] at h1; exact h1)
      have HFO := Lib.hid (show GOwn B wr (.slice ea E.length ec) (.slice ka K.length kc) (.slice fa F.length fc) (.slice ra R.length rc) vs (lateEs nw K E K.length) (K.map (lateK nw)) F R by have h1 := HO.out; rw [HLE.out, HLK.out, HEJ.out, HKJ.out, lateKs_all] at h1; exact h1)
      clear HX HO hlt hj
      go_wp2_with fail
      exact bodyPost_end (v := .tuple #[]) (by simp [results, Try.results58]) rfl ⟨rfl, HFX.out, ⟨vs, HFO.out⟩, HL.out⟩

end Go.Proofs.Ytlcllbdalabciaa.Gat
