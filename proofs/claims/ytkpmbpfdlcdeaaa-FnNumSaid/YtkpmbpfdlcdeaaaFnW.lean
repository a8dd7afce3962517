/-
  The walk of the law FnNum.
-/
import Derived.Test.YtkpmbpfdlcdeaaaTxtW
import Derived.Test.YtkpmbpfdlcdeaaaDrawX
import Derived.Test.YtkpmbpfdlcdeaaaPutW
import Derived.Test.YtkpmbpfdlcdeaaaFnA
import Derived.Test.YtkpmbpfdlcdeaaaCkW
import Derived.Deep.RegionHeld3
import Derived.IntWalk
import Derived.Deep.RegionWith
namespace Go.Proofs.Ytkpmbpfdlcdeaaa.Num
open Go.RowKit Go.Proofs.Ytkpmbpfdlcdeaaa.Kit Go.Proofs.Ytkpmbpfdlcdeaaa.Draw
set_option linter.unusedVariables false

theorem codeAt_of {B : Nat} {w : World} {a : Option Addr} {len cap : Nat} {c : Nat → Int} (h : CodeIs B w a len cap c) : CodeAt B w a len cap :=
  ⟨h.le, fun i hi => by obtain ⟨b, off, e, hlt, h0, h1, hc⟩ := h.cell i hi; exact ⟨b, off, e, hlt, c i, h0, h1, hc⟩⟩

set_option maxHeartbeats 400000 in
theorem drawPutNum_x (w : World) (a : Option Addr) (len cap : Nat) (hcode : CodeAt w.heap.size w a len cap) :
    Calls Try.prog 11 #[.slice a len cap] w fun e w' => (∃ n b : Int, isI64 n ∧ -1 ≤ b ∧ b ≤ 5 ∧ e = .returned (.tuple #[.int .i64 n, .int .i64 b])) ∧ Below w.heap.size w w' := by
  have HC := Lib.hid hcode
  clear hcode
  go_enter Try.func11, Try.ntmps11
  go_wp2_with fail
  refine (new_draw _ w.heap.size a len cap HC.out (Nat.le_refl _)).mono ?_
  rintro e w1 ⟨rfl, hd, hb1, hs1⟩
  go_wp2_with fail
  refine (int_draw _ w.heap.size w.heap.size a len cap hd).mono ?_
  rintro e w2 ⟨⟨n, rfl, hn⟩, hw2⟩
  go_wp2_with fail
  refine (below_draw _ w.heap.size w.heap.size a len cap hw2.dr 7 (by omega) (by omega)).mono ?_
  rintro e w3 ⟨⟨x, rfl, hx0, hx1⟩, hw3⟩
  go_wp2_with fail
  go_ret2
  refine ⟨⟨n, x - 1, hn, by omega, by omega, rfl⟩, ?_⟩
  exact (hb1.trans (grown_below hw2.grown (Nat.le_refl _) hb1.size)).trans (grown_below hw3.grown (Nat.le_refl _) (Nat.le_trans hb1.size hw2.grown.size))

theorem dr_of {B : Nat} {w : World} {cb : Nat} {T : TypeId} {a : Option Addr} {len cap : Nat} {c : Nat → Int} {s : Nat × Int} (h : Drw B w cb T a len cap c s) : Dr B w cb T a len cap :=
  ⟨⟨(s.1 : Int), s.2, by omega, by have := h.pl; omega, h.cur⟩, codeAt_of h.code, h.le⟩

set_option maxHeartbeats 400000 in
theorem drawGetNum_x (w : World) (a : Option Addr) (len cap : Nat) (c : Nat → Int) (hcode : CodeIs w.heap.size w a len cap c) (hlen : len ≤ 1048576) :
    Calls Try.prog 13 #[.slice a len cap] w fun e w' => (∃ (l : List UInt8) (p b : Int), l.length ≤ 7 ∧ isI64 p ∧ -1 ≤ b ∧ b ≤ 5 ∧ e = .returned (.tuple #[.string ⟨l.toArray⟩, .int .i64 p, .int .i64 b])) ∧ Below w.heap.size w w' := by
  have hbd := belowF_bd c len 8 (newF c len) (by omega)
  have hbl := fun w1 hd => Drw.below_x w1 w.heap.size w.heap.size a len cap c (newF c len) hd 8 (by omega) (by omega)
  obtain ⟨N, hN⟩ : ∃ N, N = (belowF c len 8 (newF c len)).1 := ⟨_, rfl⟩
  rw [← hN] at hbl hbd
  obtain ⟨N, rfl⟩ := Int.eq_ofNat_of_zero_le hbd.1
  have HB := Lib.hid hbl
  have HN := Lib.hid hbd.2
  have HC := Lib.hid hcode
  have HL := Lib.hid hlen
  clear hbl hbd hN hcode hlen
  go_enter Try.func13, Try.ntmps13
  go_wp2_with fail
  refine (Ck.new_x _ w.heap.size a len cap c HC.out (Nat.le_refl _)).mono ?_
  rintro e w1 ⟨rfl, hd, hb1⟩
  go_wp2_with fail
  refine (HB.out _ hd).mono ?_
  rintro e w2 ⟨rfl, hw2⟩
  go_wp2_with fail
  refine (Txt.text_x _ w.heap.size w.heap.size a len cap c _ hw2.dr HL.out N (by have := HN.out; omega)).mono ?_
  rintro e w3 ⟨l, s, hl, rfl, hw3⟩
  have hdr3 := dr_of hw3.dr
  have hB3 : Below w.heap.size w w3 := (hb1.trans (grown_below (hw2.grown) (Nat.le_refl _) hb1.size)).trans (grown_below hw3.grown (Nat.le_refl _) (Nat.le_trans hb1.size hw2.grown.size))
  have hlt := hw3.dr.lt
  have hsz : (ByteArray.mk l.toArray).size = N := by show l.toArray.size = _; simp [hl]
  have hl7 : l.length ≤ 7 := by have := HN.out; omega
  have hN7 : (N : Int) < 8 := HN.out
  obtain ⟨t, ht⟩ : ∃ t : ByteArray, t = ⟨l.toArray⟩ := ⟨_, rfl⟩
  rw [← ht] at hsz ⊢
  have HT := Lib.hid ht
  clear ht
  go_wp2_with fail
  refine (pickInt_draw _ w.heap.size w.heap.size a len cap ((Went.mk' hdr3 hdr3.cur (grown_refl _ _)).alloc _).dr w3.heap.size 7 isI64 (nums_new w3 [.int .i64 0, .int .i64 0, .int .i64 1, .int .i64 2, .int .i64 (-1), .int .i64 N, .int .i64 9223372036854775807] 3 isI64 ?_) (by omega) (by simp) (by omega) (by omega)).mono ?_
  · intro v hv
    simp only [List.mem_cons, List.mem_nil_iff, or_false] at hv
    unfold isI64
    rcases hv with rfl | rfl | rfl | rfl | rfl | rfl | rfl <;> exact ⟨_, rfl, by omega, by omega⟩
  · rintro e w4 ⟨⟨p, rfl, hp⟩, hw4⟩
    have hB4 : Below w.heap.size w w4 := (hB3.alloc hB3.size _).trans (grown_below hw4.grown (Nat.le_refl _) (by have := hB3.size; simp; omega))
    go_wp2_with fail
    refine (below_draw _ w.heap.size w.heap.size a len cap hw4.dr 7 (by omega) (by omega)).mono ?_
    rintro e w5 ⟨⟨x, rfl, hx0, hx1⟩, hw5⟩
    go_wp2_with fail
    go_ret3
    refine ⟨⟨l, p, x - 1, hl7, hp, by omega, by omega, by rw [HT.out]; rfl⟩, ?_⟩
    exact hB4.trans (grown_below hw5.grown (Nat.le_refl _) hB4.size)

theorem cut_extract (t : ByteArray) (P Q : Nat) : t.extract P (P + Q) = ⟨(gcut t P Q).toArray⟩ := by
  apply ByteArray.ext
  apply Array.ext'
  rw [ByteArray.data_extract, Array.toList_extract]
  show _ = gcut t P Q
  unfold gcut
  rw [List.extract_eq_take_drop, show P + Q - P = Q by omega]

theorem wf_of {n : Int} (h : isI64 n) : (Lit.int .i64 n).wf = true := by
  have h1 := h.1
  have h2 := h.2
  simp [Lit.wf, IntKind.min, IntKind.max, IntKind.signed, IntKind.bits]
  omega

set_option maxRecDepth 100000 in
set_option maxHeartbeats 2000000 in
theorem fnNum_walk (w0 : World) (a : Option Addr) (len cap : Nat) (zs : List Int) (h : IsRow .u8 w0 a len cap zs) :
    Calls Try.prog 3 #[.slice a len cap] w0 fun e w' => e = .returned (.bool true) ∧ Below w0.heap.size w0 w' := by
  have hcode := h.codeIs
  obtain ⟨c, hc⟩ : ∃ c : Nat → Int, c = fun i => zs.getD i 0 := ⟨_, rfl⟩
  rw [← hc] at hcode
  clear hc h
  have HC := Lib.hid hcode
  have hl := hcode.le
  clear hcode
  by_cases hbig : (1048576 : Int) < (len : Int)
  · go_enter Try.func3, Try.ntmps3
    go_wp2_with fail
    refine (Draw.big_yes _ a len cap hl hbig).mono ?_
    rintro e w' ⟨rfl, rfl⟩
    go_wp2_with fail
    go_ret
    exact ⟨rfl, Below.refl _ _⟩
  · have HL := Lib.hid hl
    have HBG := Lib.hid (show len ≤ 1048576 by omega)
    clear hl
    go_enter Try.func3, Try.ntmps3
    go_wp2_with fail
    refine (Draw.big_no _ a len cap HL.out (by omega)).mono ?_
    rintro e w' ⟨rfl, rfl⟩
    go_wp2_with fail
    refine (drawPutNum_x _ a len cap (codeAt_of HC.out)).mono ?_
    rintro e w1 ⟨⟨n, b, hn, hb0, hb5, rfl⟩, hb1⟩
    have HWF := Lib.hid (wf_of hn)
    have HNI := Lib.hid hn
    clear hn
    go_wp2_with fail
    refine (putNum_any n b _ HWF.out).mono ?_
    rintro e w2 ⟨rfl, hb2⟩
    have hB2 := hb1.trans (hb2.mono hb1.size)
    clear hb1 hb2
    obtain ⟨sb, hsb⟩ : ∃ sb : ByteArray, sb = ⟨(putVal n b).toArray⟩ := ⟨_, rfl⟩
    rw [← hsb]
    have HSB := Lib.hid hsb
    clear hsb
    go_wp2_with fail
    refine (drawGetNum_x _ a len cap c ((HC.out.below hB2).mono hB2.size) HBG.out).mono ?_
    rintro e w3 ⟨⟨l, p, q, hl7, hp, hq0, hq5, rfl⟩, hb3⟩
    have hB3 := hB2.trans (hb3.mono hB2.size)
    clear hB2 hb3
    have hsz : (ByteArray.mk l.toArray).size ≤ 7 := by show l.toArray.size ≤ 7; simpa using hl7
    obtain ⟨t, ht⟩ : ∃ t : ByteArray, t = ⟨l.toArray⟩ := ⟨_, rfl⟩
    rw [← ht] at hsz ⊢
    clear ht hl7
    have hmx : t.size ≤ maxLen := by unfold maxLen; omega
    have HMX := Lib.hid hmx
    have HSZ := Lib.hid hsz
    have HPI := Lib.hid hp
    clear hmx hsz hp
    go_wp2_with fail
    refine (getNum_any t p q _ HMX.out).mono ?_
    rintro e w4 ⟨rfl, rfl⟩
    have HSP := Lib.hid (fun w1 (h : Below w0.heap.size w0 w1) => (specPutNum_any n b w1 HWF.out).mono (R' := fun e w' => e = .returned (.string sb) ∧ Below w0.heap.size w0 w') fun e w' ⟨h1, h2⟩ => ⟨by rw [HSB.out]; exact h1, h.trans (h2.mono h.size)⟩)
    have HSG := Lib.hid (fun w1 (h : Below w0.heap.size w0 w1) => (specGetNum_any t p q w1 HMX.out).mono (R' := fun e w' => e = .returned (.int .i64 (gnVal t p q)) ∧ Below w0.heap.size w0 w') fun e w' ⟨h1, h2⟩ => ⟨h1, h2 ▸ h⟩)
    by_cases hok : gnOk t p q
    · have hgv := gnVal_ok hok
      obtain ⟨hk1, hk4, hk0, hkp⟩ := hok
      obtain ⟨P, rfl⟩ := Int.eq_ofNat_of_zero_le hk0
      obtain ⟨Q, rfl⟩ := Int.eq_ofNat_of_zero_le (show 0 ≤ q by omega)
      rw [show ((P : Nat) : Int).toNat = P by omega, show ((Q : Nat) : Int).toNat = Q by omega] at hgv
      have hpg := put_get t P Q (by omega) (by omega) (by omega)
      have hlt : gn (gcut t P Q) < 4294967296 := by
        have h1 := gn_lt (gcut t P Q)
        have h2 : 256 ^ (gcut t P Q).length ≤ 256 ^ 4 := Nat.pow_le_pow_right (by decide) (Nat.le_trans (gcut_len t P Q) (by omega))
        have h3 : (256 : Nat) ^ 4 = 4294967296 := by decide
        omega
      obtain ⟨M, hM⟩ : ∃ M, M = gn (gcut t P Q) := ⟨_, rfl⟩
      rw [← hM] at hgv hpg hlt
      rw [hgv] at HSG ⊢
      have HPT := Lib.hid (fun w1 (h : Below w0.heap.size w0 w1) => (putNum_any (M : Int) Q w1 (wf_of ⟨by omega, by omega⟩)).mono (R' := fun e w' => e = .returned (.string ⟨(gcut t P Q).toArray⟩) ∧ Below w0.heap.size w0 w') fun e w' ⟨h1, h2⟩ => ⟨by rw [← hpg]; exact h1, h.trans (h2.mono h.size)⟩)
      have hM0 : (0 : Int) ≤ (M : Int) := by omega
      clear hgv hpg hM hlt
      go_wp2_with fail
      refine wp_region_held_drew (S := fun w' => Below w0.heap.size w0 w') (by kernel_rfl) hB3.drew (fun hHeld => ?_)
      refine wpAnyH_take (i := 0) (oi := { dst := some _, op := _, type := _, pos := _, after := _, guard := _ }) (v := ?_) rfl (by kernel_rfl) (by kernel_rfl) (by kernel_rfl) (fun _ _ _ h => h) ?_ (by assumption) ?_
      rotate_left 1
      focus (refine Or.inl ⟨by rfl, ?_⟩; intro w hSw; go_simp; try with_reducible rfl)
      try simp only [Act.put, List.setIfInBounds_toArray, List.set_cons_zero, List.set_cons_succ]
      refine wpAnyH_take (i := 1) (oi := { dst := some _, op := _, type := _, pos := _, after := _, guard := _ }) (v := ?_) rfl (by kernel_rfl) (by kernel_rfl) (by kernel_rfl) (fun _ _ _ h => h) ?_ (by assumption) ?_
      rotate_left 1
      focus (refine Or.inl ⟨by rfl, ?_⟩; intro w hSw; go_simp; try with_reducible rfl)
      try simp only [Act.put, List.setIfInBounds_toArray, List.set_cons_zero, List.set_cons_succ]
      refine wpAnyH_take (i := 2) (oi := { dst := some _, op := _, type := _, pos := _, after := _, guard := _ }) (v := ?_) rfl (by kernel_rfl) (by kernel_rfl) (by kernel_rfl) (fun _ _ _ h => h) ?_ (by assumption) ?_
      rotate_left 1
      focus (refine Or.inl ⟨by rfl, ?_⟩; intro w hSw; go_simp; try with_reducible rfl)
      try simp only [Act.put, List.setIfInBounds_toArray, List.set_cons_zero, List.set_cons_succ]
      refine wpAnyH_ready (rs := [3]) (by kernel_rfl) (by simp) ?_
      refine AllReadyH.cons rfl (fun KK hKK => ?_) AllReadyH.nil
      go_simp
      refine (HSP.out _ ‹_›).mono ?_
      rintro e w5 ⟨rfl, hb5⟩
      dsimp only
      refine hKK.out _ _ hb5 (fun hHeld => ?_)
      clear hKK
      try simp only [Act.put, List.setIfInBounds_toArray, List.set_cons_zero, List.set_cons_succ]
      refine wpAnyH_take (i := 4) (oi := { dst := some _, op := _, type := _, pos := _, after := _, guard := _ }) (v := ?_) rfl (by kernel_rfl) (by kernel_rfl) (by kernel_rfl) (fun _ _ _ h => h) ?_ (by assumption) ?_
      rotate_left 1
      focus (refine Or.inl ⟨by rfl, ?_⟩; intro w hSw; go_simp; try with_reducible rfl)
      try simp only [Act.put, List.setIfInBounds_toArray, List.set_cons_zero, List.set_cons_succ]
      refine wpAnyH_take (i := 5) (oi := { dst := some _, op := _, type := _, pos := _, after := _, guard := _ }) (v := ?_) rfl (by kernel_rfl) (by kernel_rfl) (by kernel_rfl) (fun _ _ _ h => h) ?_ (by assumption) ?_
      rotate_left 1
      focus (refine Or.inl ⟨by rfl, ?_⟩; intro w hSw; go_simp; try with_reducible rfl)
      try simp only [Act.put, List.setIfInBounds_toArray, List.set_cons_zero, List.set_cons_succ]
      refine wpAnyH_take (i := 6) (oi := { dst := some _, op := _, type := _, pos := _, after := _, guard := _ }) (v := ?_) rfl (by kernel_rfl) (by kernel_rfl) (by kernel_rfl) (fun _ _ _ h => h) ?_ (by assumption) ?_
      rotate_left 1
      focus (refine Or.inl ⟨by rfl, ?_⟩; intro w hSw; go_simp; try with_reducible rfl)
      try simp only [Act.put, List.setIfInBounds_toArray, List.set_cons_zero, List.set_cons_succ]
      refine wpAnyH_take (i := 7) (oi := { dst := some _, op := _, type := _, pos := _, after := _, guard := _ }) (v := ?_) rfl (by kernel_rfl) (by kernel_rfl) (by kernel_rfl) (fun _ _ _ h => h) ?_ (by assumption) ?_
      rotate_left 1
      focus (refine Or.inl ⟨by rfl, ?_⟩; intro w hSw; go_simp; try with_reducible rfl)
      try simp only [Act.put, List.setIfInBounds_toArray, List.set_cons_zero, List.set_cons_succ]
      refine wpAnyH_take (i := 8) (oi := { dst := some _, op := _, type := _, pos := _, after := _, guard := _ }) (v := ?_) rfl (by kernel_rfl) (by kernel_rfl) (by kernel_rfl) (fun _ _ _ h => h) ?_ (by assumption) ?_
      rotate_left 1
      focus (refine Or.inl ⟨by rfl, ?_⟩; intro w hSw; go_simp; try with_reducible rfl)
      try simp only [Act.put, List.setIfInBounds_toArray, List.set_cons_zero, List.set_cons_succ]
      refine wpAnyH_take (i := 9) (oi := { dst := some _, op := _, type := _, pos := _, after := _, guard := _ }) (v := ?_) rfl (by kernel_rfl) (by kernel_rfl) (by kernel_rfl) (fun _ _ _ h => h) ?_ (by assumption) ?_
      rotate_left 1
      focus (refine Or.inl ⟨by rfl, ?_⟩; intro w hSw; go_simp; try with_reducible rfl)
      try simp only [Act.put, List.setIfInBounds_toArray, List.set_cons_zero, List.set_cons_succ]
      refine wpAnyH_ready (rs := [10]) (by kernel_rfl) (by simp) ?_
      refine AllReadyH.cons rfl (fun KK2 hKK2 => ?_) AllReadyH.nil
      go_simp
      refine (HSG.out _ ‹_›).mono ?_
      rintro e w6 ⟨rfl, hb6⟩
      dsimp only
      refine hKK2.out _ _ hb6 (fun hHeld => ?_)
      clear hKK2
      try simp only [Act.put, List.setIfInBounds_toArray, List.set_cons_zero, List.set_cons_succ]
      refine wpAnyH_take (i := 11) (oi := { dst := some _, op := _, type := _, pos := _, after := _, guard := _ }) (v := ?_) rfl (by kernel_rfl) (by kernel_rfl) (by kernel_rfl) (fun _ _ _ h => h) ?_ (by assumption) ?_
      rotate_left 1
      focus (refine Or.inl ⟨by rfl, ?_⟩; intro w hSw; go_simp; try with_reducible rfl)
      try simp only [Act.put, List.setIfInBounds_toArray, List.set_cons_zero, List.set_cons_succ]
      refine wpAnyH_take (i := 12) (oi := { dst := some _, op := _, type := _, pos := _, after := _, guard := _ }) (v := ?_) rfl (by kernel_rfl) (by kernel_rfl) (by kernel_rfl) (fun _ _ _ h => h) ?_ (by assumption) ?_
      rotate_left 1
      focus (refine Or.inl ⟨by rfl, ?_⟩; intro w hSw; go_simp; try with_reducible rfl)
      try simp only [Act.put, List.setIfInBounds_toArray, List.set_cons_zero, List.set_cons_succ]
      refine wpAnyH_take (i := 13) (oi := { dst := some _, op := _, type := _, pos := _, after := _, guard := _ }) (v := ?_) rfl (by kernel_rfl) (by kernel_rfl) (by kernel_rfl) (fun _ _ _ h => h) ?_ (by assumption) ?_
      rotate_left 1
      focus (refine Or.inl ⟨by rfl, ?_⟩; intro w hSw; go_simp; try with_reducible rfl)
      try simp only [Act.put, List.setIfInBounds_toArray, List.set_cons_zero, List.set_cons_succ]
      refine wpAnyH_take (i := 14) (oi := { dst := some _, op := _, type := _, pos := _, after := _, guard := _ }) (v := ?_) rfl (by kernel_rfl) (by kernel_rfl) (by kernel_rfl) (fun _ _ _ h => h) ?_ (by assumption) ?_
      rotate_left 1
      focus (refine Or.inl ⟨by rfl, ?_⟩; intro w hSw; go_simp; try with_reducible rfl)
      try simp only [Act.put, List.setIfInBounds_toArray, List.set_cons_zero, List.set_cons_succ]
      refine wpAnyH_take (i := 15) (oi := { dst := some _, op := _, type := _, pos := _, after := _, guard := _ }) (v := ?_) rfl (by kernel_rfl) (by kernel_rfl) (by kernel_rfl) (fun _ _ _ h => h) ?_ (by assumption) ?_
      rotate_left 1
      focus (refine Or.inl ⟨by rfl, ?_⟩; intro w hSw; go_simp; try with_reducible rfl)
      try simp only [Act.put, List.setIfInBounds_toArray, List.set_cons_zero, List.set_cons_succ]
      refine wpAnyH_take (i := 16) (oi := { dst := some _, op := _, type := _, pos := _, after := _, guard := _ }) (v := ?_) rfl (by kernel_rfl) (by kernel_rfl) (by kernel_rfl) (fun _ _ _ h => h) ?_ (by assumption) ?_
      rotate_left 1
      focus (refine Or.inl ⟨by rfl, ?_⟩; intro w hSw; go_simp; try with_reducible rfl)
      try simp only [Act.put, List.setIfInBounds_toArray, List.set_cons_zero, List.set_cons_succ]
      refine wpAnyH_take (i := 17) (oi := { dst := some _, op := _, type := _, pos := _, after := _, guard := _ }) (v := ?_) rfl (by kernel_rfl) (by kernel_rfl) (by kernel_rfl) (fun _ _ _ h => h) ?_ (by assumption) ?_
      rotate_left 1
      focus (refine Or.inl ⟨by rfl, ?_⟩; intro w hSw; go_simp; try with_reducible rfl)
      try simp only [Act.put, List.setIfInBounds_toArray, List.set_cons_zero, List.set_cons_succ]
      refine wpAnyH_take (i := 18) (oi := { dst := some _, op := _, type := _, pos := _, after := _, guard := _ }) (v := ?_) rfl (by kernel_rfl) (by kernel_rfl) (by kernel_rfl) (fun _ _ _ h => h) ?_ (by assumption) ?_
      rotate_left 1
      focus (refine Or.inl ⟨by rfl, ?_⟩; intro w hSw; go_simp; try with_reducible rfl)
      try simp only [Act.put, List.setIfInBounds_toArray, List.set_cons_zero, List.set_cons_succ]
      refine wpAnyH_take (i := 20) (oi := { dst := some _, op := _, type := _, pos := _, after := _, guard := _ }) (v := ?_) rfl (by kernel_rfl) (by kernel_rfl) (by kernel_rfl) (fun _ _ _ h => h) ?_ (by assumption) ?_
      rotate_left 1
      focus (refine Or.inl ⟨by rfl, ?_⟩; intro w hSw; go_simp; try with_reducible rfl)
      try simp only [Act.put, List.setIfInBounds_toArray, List.set_cons_zero, List.set_cons_succ]
      refine wpAnyH_take (i := 21) (oi := { dst := some _, op := _, type := _, pos := _, after := _, guard := _ }) (v := ?_) rfl (by kernel_rfl) (by kernel_rfl) (by kernel_rfl) (fun _ _ _ h => h) ?_ (by assumption) ?_
      rotate_left 1
      focus (refine Or.inl ⟨by rfl, ?_⟩; intro w hSw; go_simp; try with_reducible rfl)
      try simp only [Act.put, List.setIfInBounds_toArray, List.set_cons_zero, List.set_cons_succ]
      refine wpAnyH_take (i := 22) (oi := { dst := some _, op := _, type := _, pos := _, after := _, guard := _ }) (v := ?_) rfl (by kernel_rfl) (by kernel_rfl) (by kernel_rfl) (fun _ _ _ h => h) ?_ (by assumption) ?_
      rotate_left 1
      focus (refine Or.inl ⟨by rfl, ?_⟩; intro w hSw; go_simp; try with_reducible rfl)
      try simp only [Act.put, List.setIfInBounds_toArray, List.set_cons_zero, List.set_cons_succ]
      refine wpAnyH_take (i := 23) (oi := { dst := some _, op := _, type := _, pos := _, after := _, guard := _ }) (v := ?_) rfl (by kernel_rfl) (by kernel_rfl) (by kernel_rfl) (fun _ _ _ h => h) ?_ (by assumption) ?_
      rotate_left 1
      focus (refine Or.inl ⟨by rfl, ?_⟩; intro w hSw; go_simp; try with_reducible rfl)
      try simp only [Act.put, List.setIfInBounds_toArray, List.set_cons_zero, List.set_cons_succ]
      have hpw : IntKind.i64.wrap ((P : Int) + (Q : Int)) = (P : Int) + (Q : Int) := IntWalk.i64_in _ (by have := HSZ.out; omega)
      refine wpAnyH_take (i := 24) (oi := { dst := some _, op := _, type := _, pos := _, after := _, guard := _ }) (v := ?_) rfl (by kernel_rfl) (by kernel_rfl) (by kernel_rfl) (fun _ _ _ h => h) ?_ (by assumption) ?_
      rotate_left 1
      focus (refine Or.inl ⟨by rfl, ?_⟩; intro w hSw; go_simp; try with_reducible rfl)
      try simp only [Act.put, List.setIfInBounds_toArray, List.set_cons_zero, List.set_cons_succ]
      try simp only [hpw]
      have hex : t.extract P (P + Q) = ⟨(gcut t P Q).toArray⟩ := cut_extract t P Q
      have hpq : (P : Int) + (Q : Int) ≤ (t.size : Int) := by omega
      have hpq2 : (P : Int) ≤ (P : Int) + (Q : Int) := by omega
      have hpq3 : ((P : Int) + (Q : Int)).toNat = P + Q := by omega
      have hpq4 : (0 : Int) ≤ (P : Int) + (Q : Int) := by omega
      refine wpAnyH_take (i := 25) (oi := { dst := some _, op := _, type := _, pos := _, after := _, guard := _ }) (v := ?_) rfl (by kernel_rfl) (by kernel_rfl) (by kernel_rfl) (fun _ _ _ h => h) ?_ (by assumption) ?_
      rotate_left 1
      focus (refine Or.inl ⟨by rfl, ?_⟩; intro w hSw; go_simp; try with_reducible rfl)
      try simp only [Act.put, List.setIfInBounds_toArray, List.set_cons_zero, List.set_cons_succ]
      try simp only [hex]
      refine wpAnyH_ready (rs := [19]) (by kernel_rfl) (by simp) ?_
      refine AllReadyH.cons rfl (fun KK3 hKK3 => ?_) AllReadyH.nil
      go_simp
      refine (HPT.out _ ‹_›).mono ?_
      rintro e w7 ⟨rfl, hb7⟩
      dsimp only
      refine hKK3.out _ _ hb7 (fun hHeld => ?_)
      clear hKK3
      try simp only [Act.put, List.setIfInBounds_toArray, List.set_cons_zero, List.set_cons_succ]
      refine wpAnyH_take (i := 26) (oi := { dst := some _, op := _, type := _, pos := _, after := _, guard := _ }) (v := ?_) rfl (by kernel_rfl) (by kernel_rfl) (by kernel_rfl) (fun _ _ _ h => h) ?_ (by assumption) ?_
      rotate_left 1
      focus (refine Or.inl ⟨by rfl, ?_⟩; intro w hSw; go_simp; try with_reducible rfl)
      try simp only [Act.put, List.setIfInBounds_toArray, List.set_cons_zero, List.set_cons_succ]
      refine wpAnyH_take (i := 27) (oi := { dst := some _, op := _, type := _, pos := _, after := _, guard := _ }) (v := ?_) rfl (by kernel_rfl) (by kernel_rfl) (by kernel_rfl) (fun _ _ _ h => h) ?_ (by assumption) ?_
      rotate_left 1
      focus (refine Or.inl ⟨by rfl, ?_⟩; intro w hSw; go_simp; try with_reducible rfl)
      try simp only [Act.put, List.setIfInBounds_toArray, List.set_cons_zero, List.set_cons_succ]
      refine wpAnyH_take (i := 28) (oi := { dst := some _, op := _, type := _, pos := _, after := _, guard := _ }) (v := ?_) rfl (by kernel_rfl) (by kernel_rfl) (by kernel_rfl) (fun _ _ _ h => h) ?_ (by assumption) ?_
      rotate_left 1
      focus (refine Or.inl ⟨by rfl, ?_⟩; intro w hSw; go_simp; try with_reducible rfl)
      try simp only [Act.put, List.setIfInBounds_toArray, List.set_cons_zero, List.set_cons_succ]
      refine wpAnyH_done (by kernel_rfl) ?_ _
      clear hpw hpq hpq2 hpq3 hpq4 hex hM0
      by_cases hn0 : n < 0
      · have hse : sb = ⟨#[]⟩ := by rw [HSB.out, putVal_bad (fun h => by have := h.1; omega)]
        subst hse
        go_wp2
        go_ret
        exact ⟨rfl, hb7⟩
      by_cases hb1 : b < 1
      · have hse : sb = ⟨#[]⟩ := by rw [HSB.out, putVal_bad (fun h => by have := h.2.1; omega)]
        subst hse
        go_wp2
        go_ret
        exact ⟨rfl, hb7⟩
      by_cases hb4 : 4 < b
      · have hse : sb = ⟨#[]⟩ := by rw [HSB.out, putVal_bad (fun h => by have := h.2.2; omega)]
        subst hse
        go_wp2
        go_ret
        exact ⟨rfl, hb7⟩
      obtain ⟨N, rfl⟩ := Int.eq_ofNat_of_zero_le (show 0 ≤ n by omega)
      obtain ⟨B, rfl⟩ := Int.eq_ofNat_of_zero_le (show 0 ≤ b by omega)
      have hss : sb.size = B := by rw [HSB.out, putVal_ok ⟨by omega, by omega, by omega⟩]; show (pb _ _).toArray.size = _; rw [List.size_toArray, pb_len]; omega
      have hgp := get_put N B (by omega) (by omega)
      have hse : ByteArray.mk (pb B N).toArray = sb := by rw [HSB.out, putVal_ok ⟨by omega, by omega, by omega⟩]; rfl
      rw [hse] at hgp
      have HG := Lib.hid (fun w => getNum_any (⟨#[120]⟩ ++ sb) 1 B w (by rw [ByteArray.size_append]; show 1 + sb.size ≤ _; unfold maxLen; omega))
      rw [hgp] at HG
      have hadd : ∀ wx : World, (Op.stringOp .add ⟨#[120]⟩ sb).run Try.prog wx = .ok (.string (⟨#[120]⟩ ++ sb)) wx := fun wx => run_string_add_sum wx _ _ (by show 1 + sb.size ≤ _; omega)
      have hN := HNI.out.2
      clear hse hgp
      obtain rfl | rfl | rfl | rfl : B = 1 ∨ B = 2 ∨ B = 3 ∨ B = 4 := by omega
      · go_wp2_with fail
        go_quiet ((go_at_call 14; exact (HG.out _).mono fun e w' ⟨h1, h2⟩ => ⟨h1, _, h2.symm⟩))
        go_wp2_with fail
        go_ret
        exact ⟨rfl, ⟨hb7.os, hb7.tape, hb7.output, hb7.size, hb7.block⟩⟩
      · go_wp2_with fail
        go_quiet ((go_at_call 14; exact (HG.out _).mono fun e w' ⟨h1, h2⟩ => ⟨h1, _, h2.symm⟩))
        go_wp2_with fail
        go_ret
        exact ⟨rfl, ⟨hb7.os, hb7.tape, hb7.output, hb7.size, hb7.block⟩⟩
      · go_wp2_with fail
        go_quiet ((go_at_call 14; exact (HG.out _).mono fun e w' ⟨h1, h2⟩ => ⟨h1, _, h2.symm⟩))
        go_wp2_with fail
        go_ret
        exact ⟨rfl, ⟨hb7.os, hb7.tape, hb7.output, hb7.size, hb7.block⟩⟩
      · go_wp2_with fail
        go_quiet ((go_at_call 14; exact (HG.out _).mono fun e w' ⟨h1, h2⟩ => ⟨h1, _, h2.symm⟩))
        go_wp2_with fail
        go_ret
        exact ⟨rfl, ⟨hb7.os, hb7.tape, hb7.output, hb7.size, hb7.block⟩⟩
    · have hm := gnVal_bad hok
      rw [hm] at HSG ⊢
      clear hm hok
      go_wp2_with fail
      refine wp_region_held_drew (S := fun w' => Below w0.heap.size w0 w') (by kernel_rfl) hB3.drew (fun hHeld => ?_)
      refine wpAnyH_take (i := 0) (oi := { dst := some _, op := _, type := _, pos := _, after := _, guard := _ }) (v := ?_) rfl (by kernel_rfl) (by kernel_rfl) (by kernel_rfl) (fun _ _ _ h => h) ?_ (by assumption) ?_
      rotate_left 1
      focus (refine Or.inl ⟨by rfl, ?_⟩; intro w hSw; go_simp; try with_reducible rfl)
      try simp only [Act.put, List.setIfInBounds_toArray, List.set_cons_zero, List.set_cons_succ]
      refine wpAnyH_take (i := 1) (oi := { dst := some _, op := _, type := _, pos := _, after := _, guard := _ }) (v := ?_) rfl (by kernel_rfl) (by kernel_rfl) (by kernel_rfl) (fun _ _ _ h => h) ?_ (by assumption) ?_
      rotate_left 1
      focus (refine Or.inl ⟨by rfl, ?_⟩; intro w hSw; go_simp; try with_reducible rfl)
      try simp only [Act.put, List.setIfInBounds_toArray, List.set_cons_zero, List.set_cons_succ]
      refine wpAnyH_take (i := 2) (oi := { dst := some _, op := _, type := _, pos := _, after := _, guard := _ }) (v := ?_) rfl (by kernel_rfl) (by kernel_rfl) (by kernel_rfl) (fun _ _ _ h => h) ?_ (by assumption) ?_
      rotate_left 1
      focus (refine Or.inl ⟨by rfl, ?_⟩; intro w hSw; go_simp; try with_reducible rfl)
      try simp only [Act.put, List.setIfInBounds_toArray, List.set_cons_zero, List.set_cons_succ]
      refine wpAnyH_ready (rs := [3]) (by kernel_rfl) (by simp) ?_
      refine AllReadyH.cons rfl (fun KK hKK => ?_) AllReadyH.nil
      go_simp
      refine (HSP.out _ ‹_›).mono ?_
      rintro e w5 ⟨rfl, hb5⟩
      dsimp only
      refine hKK.out _ _ hb5 (fun hHeld => ?_)
      clear hKK
      try simp only [Act.put, List.setIfInBounds_toArray, List.set_cons_zero, List.set_cons_succ]
      refine wpAnyH_take (i := 4) (oi := { dst := some _, op := _, type := _, pos := _, after := _, guard := _ }) (v := ?_) rfl (by kernel_rfl) (by kernel_rfl) (by kernel_rfl) (fun _ _ _ h => h) ?_ (by assumption) ?_
      rotate_left 1
      focus (refine Or.inl ⟨by rfl, ?_⟩; intro w hSw; go_simp; try with_reducible rfl)
      try simp only [Act.put, List.setIfInBounds_toArray, List.set_cons_zero, List.set_cons_succ]
      refine wpAnyH_take (i := 5) (oi := { dst := some _, op := _, type := _, pos := _, after := _, guard := _ }) (v := ?_) rfl (by kernel_rfl) (by kernel_rfl) (by kernel_rfl) (fun _ _ _ h => h) ?_ (by assumption) ?_
      rotate_left 1
      focus (refine Or.inl ⟨by rfl, ?_⟩; intro w hSw; go_simp; try with_reducible rfl)
      try simp only [Act.put, List.setIfInBounds_toArray, List.set_cons_zero, List.set_cons_succ]
      refine wpAnyH_take (i := 6) (oi := { dst := some _, op := _, type := _, pos := _, after := _, guard := _ }) (v := ?_) rfl (by kernel_rfl) (by kernel_rfl) (by kernel_rfl) (fun _ _ _ h => h) ?_ (by assumption) ?_
      rotate_left 1
      focus (refine Or.inl ⟨by rfl, ?_⟩; intro w hSw; go_simp; try with_reducible rfl)
      try simp only [Act.put, List.setIfInBounds_toArray, List.set_cons_zero, List.set_cons_succ]
      refine wpAnyH_take (i := 7) (oi := { dst := some _, op := _, type := _, pos := _, after := _, guard := _ }) (v := ?_) rfl (by kernel_rfl) (by kernel_rfl) (by kernel_rfl) (fun _ _ _ h => h) ?_ (by assumption) ?_
      rotate_left 1
      focus (refine Or.inl ⟨by rfl, ?_⟩; intro w hSw; go_simp; try with_reducible rfl)
      try simp only [Act.put, List.setIfInBounds_toArray, List.set_cons_zero, List.set_cons_succ]
      refine wpAnyH_take (i := 8) (oi := { dst := some _, op := _, type := _, pos := _, after := _, guard := _ }) (v := ?_) rfl (by kernel_rfl) (by kernel_rfl) (by kernel_rfl) (fun _ _ _ h => h) ?_ (by assumption) ?_
      rotate_left 1
      focus (refine Or.inl ⟨by rfl, ?_⟩; intro w hSw; go_simp; try with_reducible rfl)
      try simp only [Act.put, List.setIfInBounds_toArray, List.set_cons_zero, List.set_cons_succ]
      refine wpAnyH_take (i := 9) (oi := { dst := some _, op := _, type := _, pos := _, after := _, guard := _ }) (v := ?_) rfl (by kernel_rfl) (by kernel_rfl) (by kernel_rfl) (fun _ _ _ h => h) ?_ (by assumption) ?_
      rotate_left 1
      focus (refine Or.inl ⟨by rfl, ?_⟩; intro w hSw; go_simp; try with_reducible rfl)
      try simp only [Act.put, List.setIfInBounds_toArray, List.set_cons_zero, List.set_cons_succ]
      refine wpAnyH_ready (rs := [10]) (by kernel_rfl) (by simp) ?_
      refine AllReadyH.cons rfl (fun KK2 hKK2 => ?_) AllReadyH.nil
      go_simp
      refine (HSG.out _ ‹_›).mono ?_
      rintro e w6 ⟨rfl, hb6⟩
      dsimp only
      refine hKK2.out _ _ hb6 (fun hHeld => ?_)
      clear hKK2
      try simp only [Act.put, List.setIfInBounds_toArray, List.set_cons_zero, List.set_cons_succ]
      refine wpAnyH_take (i := 11) (oi := { dst := some _, op := _, type := _, pos := _, after := _, guard := _ }) (v := ?_) rfl (by kernel_rfl) (by kernel_rfl) (by kernel_rfl) (fun _ _ _ h => h) ?_ (by assumption) ?_
      rotate_left 1
      focus (refine Or.inl ⟨by rfl, ?_⟩; intro w hSw; go_simp; try with_reducible rfl)
      try simp only [Act.put, List.setIfInBounds_toArray, List.set_cons_zero, List.set_cons_succ]
      refine wpAnyH_take (i := 12) (oi := { dst := some _, op := _, type := _, pos := _, after := _, guard := _ }) (v := ?_) rfl (by kernel_rfl) (by kernel_rfl) (by kernel_rfl) (fun _ _ _ h => h) ?_ (by assumption) ?_
      rotate_left 1
      focus (refine Or.inl ⟨by rfl, ?_⟩; intro w hSw; go_simp; try with_reducible rfl)
      try simp only [Act.put, List.setIfInBounds_toArray, List.set_cons_zero, List.set_cons_succ]
      refine wpAnyH_take (i := 13) (oi := { dst := some _, op := _, type := _, pos := _, after := _, guard := _ }) (v := ?_) rfl (by kernel_rfl) (by kernel_rfl) (by kernel_rfl) (fun _ _ _ h => h) ?_ (by assumption) ?_
      rotate_left 1
      focus (refine Or.inl ⟨by rfl, ?_⟩; intro w hSw; go_simp; try with_reducible rfl)
      try simp only [Act.put, List.setIfInBounds_toArray, List.set_cons_zero, List.set_cons_succ]
      refine wpAnyH_take (i := 14) (oi := { dst := some _, op := _, type := _, pos := _, after := _, guard := _ }) (v := ?_) rfl (by kernel_rfl) (by kernel_rfl) (by kernel_rfl) (fun _ _ _ h => h) ?_ (by assumption) ?_
      rotate_left 1
      focus (refine Or.inl ⟨by rfl, ?_⟩; intro w hSw; go_simp; try with_reducible rfl)
      try simp only [Act.put, List.setIfInBounds_toArray, List.set_cons_zero, List.set_cons_succ]
      refine wpAnyH_take (i := 15) (oi := { dst := some _, op := _, type := _, pos := _, after := _, guard := _ }) (v := ?_) rfl (by kernel_rfl) (by kernel_rfl) (by kernel_rfl) (fun _ _ _ h => h) ?_ (by assumption) ?_
      rotate_left 1
      focus (refine Or.inl ⟨by rfl, ?_⟩; intro w hSw; go_simp; try with_reducible rfl)
      try simp only [Act.put, List.setIfInBounds_toArray, List.set_cons_zero, List.set_cons_succ]
      refine wpAnyH_take (i := 16) (oi := { dst := some _, op := _, type := _, pos := _, after := _, guard := _ }) (v := ?_) rfl (by kernel_rfl) (by kernel_rfl) (by kernel_rfl) (fun _ _ _ h => h) ?_ (by assumption) ?_
      rotate_left 1
      focus (refine Or.inl ⟨by rfl, ?_⟩; intro w hSw; go_simp; try with_reducible rfl)
      try simp only [Act.put, List.setIfInBounds_toArray, List.set_cons_zero, List.set_cons_succ]
      refine wpAnyH_take (i := 17) (oi := { dst := some _, op := _, type := _, pos := _, after := _, guard := _ }) (v := undef) rfl (by kernel_rfl) (by kernel_rfl) (by kernel_rfl) (fun _ _ _ h => h) ?_ (by assumption) ?_
      focus (exact Or.inr ⟨by rfl, rfl⟩)
      try simp only [Act.put, List.setIfInBounds_toArray, List.set_cons_zero, List.set_cons_succ]
      refine wpAnyH_take (i := 18) (oi := { dst := some _, op := _, type := _, pos := _, after := _, guard := _ }) (v := undef) rfl (by kernel_rfl) (by kernel_rfl) (by kernel_rfl) (fun _ _ _ h => h) ?_ (by assumption) ?_
      focus (exact Or.inr ⟨by rfl, rfl⟩)
      try simp only [Act.put, List.setIfInBounds_toArray, List.set_cons_zero, List.set_cons_succ]
      refine wpAnyH_take (i := 19) (oi := { dst := some _, op := _, type := _, pos := _, after := _, guard := _ }) (v := undef) rfl (by kernel_rfl) (by kernel_rfl) (by kernel_rfl) (fun _ _ _ h => h) ?_ (by assumption) ?_
      focus (exact Or.inr ⟨by rfl, rfl⟩)
      try simp only [Act.put, List.setIfInBounds_toArray, List.set_cons_zero, List.set_cons_succ]
      refine wpAnyH_take (i := 20) (oi := { dst := some _, op := _, type := _, pos := _, after := _, guard := _ }) (v := undef) rfl (by kernel_rfl) (by kernel_rfl) (by kernel_rfl) (fun _ _ _ h => h) ?_ (by assumption) ?_
      focus (exact Or.inr ⟨by rfl, rfl⟩)
      try simp only [Act.put, List.setIfInBounds_toArray, List.set_cons_zero, List.set_cons_succ]
      refine wpAnyH_take (i := 21) (oi := { dst := some _, op := _, type := _, pos := _, after := _, guard := _ }) (v := undef) rfl (by kernel_rfl) (by kernel_rfl) (by kernel_rfl) (fun _ _ _ h => h) ?_ (by assumption) ?_
      focus (exact Or.inr ⟨by rfl, rfl⟩)
      try simp only [Act.put, List.setIfInBounds_toArray, List.set_cons_zero, List.set_cons_succ]
      refine wpAnyH_take (i := 22) (oi := { dst := some _, op := _, type := _, pos := _, after := _, guard := _ }) (v := undef) rfl (by kernel_rfl) (by kernel_rfl) (by kernel_rfl) (fun _ _ _ h => h) ?_ (by assumption) ?_
      focus (exact Or.inr ⟨by rfl, rfl⟩)
      try simp only [Act.put, List.setIfInBounds_toArray, List.set_cons_zero, List.set_cons_succ]
      refine wpAnyH_take (i := 23) (oi := { dst := some _, op := _, type := _, pos := _, after := _, guard := _ }) (v := undef) rfl (by kernel_rfl) (by kernel_rfl) (by kernel_rfl) (fun _ _ _ h => h) ?_ (by assumption) ?_
      focus (exact Or.inr ⟨by rfl, rfl⟩)
      try simp only [Act.put, List.setIfInBounds_toArray, List.set_cons_zero, List.set_cons_succ]
      refine wpAnyH_take (i := 24) (oi := { dst := some _, op := _, type := _, pos := _, after := _, guard := _ }) (v := undef) rfl (by kernel_rfl) (by kernel_rfl) (by kernel_rfl) (fun _ _ _ h => h) ?_ (by assumption) ?_
      focus (exact Or.inr ⟨by rfl, rfl⟩)
      try simp only [Act.put, List.setIfInBounds_toArray, List.set_cons_zero, List.set_cons_succ]
      refine wpAnyH_take (i := 25) (oi := { dst := some _, op := _, type := _, pos := _, after := _, guard := _ }) (v := undef) rfl (by kernel_rfl) (by kernel_rfl) (by kernel_rfl) (fun _ _ _ h => h) ?_ (by assumption) ?_
      focus (exact Or.inr ⟨by rfl, rfl⟩)
      try simp only [Act.put, List.setIfInBounds_toArray, List.set_cons_zero, List.set_cons_succ]
      refine wpAnyH_take (i := 26) (oi := { dst := some _, op := _, type := _, pos := _, after := _, guard := _ }) (v := undef) rfl (by kernel_rfl) (by kernel_rfl) (by kernel_rfl) (fun _ _ _ h => h) ?_ (by assumption) ?_
      focus (exact Or.inr ⟨by rfl, rfl⟩)
      try simp only [Act.put, List.setIfInBounds_toArray, List.set_cons_zero, List.set_cons_succ]
      refine wpAnyH_take (i := 27) (oi := { dst := some _, op := _, type := _, pos := _, after := _, guard := _ }) (v := ?_) rfl (by kernel_rfl) (by kernel_rfl) (by kernel_rfl) (fun _ _ _ h => h) ?_ (by assumption) ?_
      rotate_left 1
      focus (refine Or.inl ⟨by rfl, ?_⟩; intro w hSw; go_simp; try with_reducible rfl)
      try simp only [Act.put, List.setIfInBounds_toArray, List.set_cons_zero, List.set_cons_succ]
      refine wpAnyH_take (i := 28) (oi := { dst := some _, op := _, type := _, pos := _, after := _, guard := _ }) (v := ?_) rfl (by kernel_rfl) (by kernel_rfl) (by kernel_rfl) (fun _ _ _ h => h) ?_ (by assumption) ?_
      rotate_left 1
      focus (refine Or.inl ⟨by rfl, ?_⟩; intro w hSw; go_simp; try with_reducible rfl)
      try simp only [Act.put, List.setIfInBounds_toArray, List.set_cons_zero, List.set_cons_succ]
      refine wpAnyH_done (by kernel_rfl) ?_ _
      by_cases hn0 : n < 0
      · have hse : sb = ⟨#[]⟩ := by rw [HSB.out, putVal_bad (fun h => by have := h.1; omega)]
        subst hse
        go_wp2
        go_ret
        exact ⟨rfl, hb6⟩
      by_cases hb1 : b < 1
      · have hse : sb = ⟨#[]⟩ := by rw [HSB.out, putVal_bad (fun h => by have := h.2.1; omega)]
        subst hse
        go_wp2
        go_ret
        exact ⟨rfl, hb6⟩
      by_cases hb4 : 4 < b
      · have hse : sb = ⟨#[]⟩ := by rw [HSB.out, putVal_bad (fun h => by have := h.2.2; omega)]
        subst hse
        go_wp2
        go_ret
        exact ⟨rfl, hb6⟩
      obtain ⟨N, rfl⟩ := Int.eq_ofNat_of_zero_le (show 0 ≤ n by omega)
      obtain ⟨B, rfl⟩ := Int.eq_ofNat_of_zero_le (show 0 ≤ b by omega)
      have hss : sb.size = B := by rw [HSB.out, putVal_ok ⟨by omega, by omega, by omega⟩]; show (pb _ _).toArray.size = _; rw [List.size_toArray, pb_len]; omega
      have hgp := get_put N B (by omega) (by omega)
      have hse : ByteArray.mk (pb B N).toArray = sb := by rw [HSB.out, putVal_ok ⟨by omega, by omega, by omega⟩]; rfl
      rw [hse] at hgp
      have HG := Lib.hid (fun w => getNum_any (⟨#[120]⟩ ++ sb) 1 B w (by rw [ByteArray.size_append]; show 1 + sb.size ≤ _; unfold maxLen; omega))
      rw [hgp] at HG
      have hadd : ∀ wx : World, (Op.stringOp .add ⟨#[120]⟩ sb).run Try.prog wx = .ok (.string (⟨#[120]⟩ ++ sb)) wx := fun wx => run_string_add_sum wx _ _ (by show 1 + sb.size ≤ _; omega)
      have hN := HNI.out.2
      clear hse hgp
      obtain rfl | rfl | rfl | rfl : B = 1 ∨ B = 2 ∨ B = 3 ∨ B = 4 := by omega
      · go_wp2_with fail
        go_quiet ((go_at_call 14; exact (HG.out _).mono fun e w' ⟨h1, h2⟩ => ⟨h1, _, h2.symm⟩))
        go_wp2_with fail
        go_ret
        exact ⟨rfl, ⟨hb6.os, hb6.tape, hb6.output, hb6.size, hb6.block⟩⟩
      · go_wp2_with fail
        go_quiet ((go_at_call 14; exact (HG.out _).mono fun e w' ⟨h1, h2⟩ => ⟨h1, _, h2.symm⟩))
        go_wp2_with fail
        go_ret
        exact ⟨rfl, ⟨hb6.os, hb6.tape, hb6.output, hb6.size, hb6.block⟩⟩
      · go_wp2_with fail
        go_quiet ((go_at_call 14; exact (HG.out _).mono fun e w' ⟨h1, h2⟩ => ⟨h1, _, h2.symm⟩))
        go_wp2_with fail
        go_ret
        exact ⟨rfl, ⟨hb6.os, hb6.tape, hb6.output, hb6.size, hb6.block⟩⟩
      · go_wp2_with fail
        go_quiet ((go_at_call 14; exact (HG.out _).mono fun e w' ⟨h1, h2⟩ => ⟨h1, _, h2.symm⟩))
        go_wp2_with fail
        go_ret
        exact ⟨rfl, ⟨hb6.os, hb6.tape, hb6.output, hb6.size, hb6.block⟩⟩
end Go.Proofs.Ytkpmbpfdlcdeaaa.Num
