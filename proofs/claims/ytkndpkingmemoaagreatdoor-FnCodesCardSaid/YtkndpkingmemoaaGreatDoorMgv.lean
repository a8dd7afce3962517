/-
  The specification's StepLate.
  The specification's StepOld.
  keeper.land.
  keeper.ack, keeper.nack, keeper.hello.
-/
import Derived.Test.YtkndpkingmemoaaGreatDoorMgr
import Derived.Test.YtkndpkingmemoaaGreatDoorMgp
import Derived.Test.YtkndpkingmemoaaGreatDoorMgf
import Derived.Test.YtkndpkingmemoaaGreatDoorMgu
namespace Go.Proofs.YtkndpkingmemoaaGreatDoor.Gat
open Go.RowKit
open Lnk (bOne bAfter IOwn IIs YOwn YIs below_keep below_drew' bcell low_after low_alloc grown_of_below latL latI)
set_option linter.unusedVariables false
set_option linter.unusedSimpArgs false

end Go.Proofs.YtkndpkingmemoaaGreatDoor.Gat
namespace Go.Proofs.YtkndpkingmemoaaGreatDoor.Gat
open Go.RowKit
open Lnk (bOne bAfter IOwn IIs YOwn YIs below_keep below_drew' bcell low_after low_alloc grown_of_below fgtL)
set_option linter.unusedVariables false
set_option linter.unusedSimpArgs false

theorem lr_of {x : Lr} {k : Lk} {u v : Value} {up : Bool} {ep sq : Int} {y : List Lnk.Y} (h : x = ⟨k.up, k.ep, k.sq, u⟩) (hk : k = ⟨up, ep, sq, y⟩) (hu : u = v) : x = ⟨up, ep, sq, v⟩ := by subst hk; subst hu; exact h
theorem lown_cellx {B : Nat} {w : World} {E : TypeId} {g n' cap : Nat} {l : List Lr} (h : ROwn lrS B w E (.slice (some ⟨g, 0, none⟩) n' cap) l) (k : Nat) (hk : k < l.length) {up : Bool} {ep sq : Int} {v : Value} (hx : l[k] = ⟨up, ep, sq, v⟩) : C4 w g (k * 4) up ep sq v := by
  have h1 : C4 w g (k * 4) l[k].up l[k].ep l[k].sq l[k].v := ⟨h.cellAt k hk 0 _ rfl, h.cellAt k hk 1 _ rfl, h.cellAt k hk 2 _ rfl, h.cellAt k hk 3 _ rfl⟩
  rw [hx] at h1
  exact h1
end Go.Proofs.YtkndpkingmemoaaGreatDoor.Gat
namespace Go.Proofs.YtkndpkingmemoaaGreatDoor.Gat
open Go.RowKit
open Lnk (bOne bAfter IOwn IIs YOwn YIs below_keep below_drew' bcell low_after low_alloc grown_of_below ansL ansI)
set_option linter.unusedVariables false
set_option linter.unusedSimpArgs false

set_option maxRecDepth 100000 in
set_option maxHeartbeats 8000000 in
theorem land_any (w : World) (B kb : Nat) (de qu wi ti qa bu le pb pc pj pt nw la : Int) (ea : Option Addr) (ec : Nat) (ka : Option Addr) (kc : Nat) (tu : Int) (fa : Option Addr) (fc : Nat) (ra : Option Addr) (rc : Nat) (tk ac dr : Int) (vs : List Value) (E : List Ev) (K : List Lk) (F R : List Int) (kd fd fe fs fi : Int) (fb : ByteArray) (hx : Box w kb 72 [.int .i64 de, .int .i64 qu, .int .i64 wi, .int .i64 ti, .int .i64 qa, .int .i64 bu, .int .i64 le, .int .i64 pb, .int .i64 pc, .int .i64 pj, .int .i64 pt, .int .i64 nw, .int .i64 la, .slice ea E.length ec, .slice ka K.length kc, .int .i64 tu, .slice fa F.length fc, .slice ra R.length rc, .int .i64 tk, .int .i64 ac, .int .i64 dr]) (h : GOwn B w (.slice ea E.length ec) (.slice ka K.length kc) (.slice fa F.length fc) (.slice ra R.length rc) vs E K F R) (hB : B ≤ w.heap.size) (hs : Small E.length K.length F.length R.length K) (hkd : (K.length : Int) = de) (hde : de ≤ 1000) (hd1 : 1 ≤ fd) (hd2 : fd ≤ de) :
    Calls Tryz.prog 165 #[.pointer (some ⟨kb, 0, none⟩), .agg #[.int .i64 kd, .int .i64 fd, .int .i64 fe, .int .i64 fs, .int .i64 fi, .string fb]] w fun e w' => Box w' kb 72 [.int .i64 de, .int .i64 qu, .int .i64 wi, .int .i64 ti, .int .i64 qa, .int .i64 bu, .int .i64 le, .int .i64 pb, .int .i64 pc, .int .i64 pj, .int .i64 pt, .int .i64 nw, .int .i64 la, .slice ea E.length ec, .slice ka K.length kc, .int .i64 tu, .slice fa F.length fc, .slice ra R.length rc, .int .i64 tk, .int .i64 ac, .int .i64 dr] ∧ Below B w w' ∧ ((ansId (K.getD (fd - 1).toNat lk0) fe fs) = 0 → e = .returned (.tuple #[.int .i64 0, errV 9]) ∧ ∃ vs', GOwn B w' (.slice ea E.length ec) (.slice ka K.length kc) (.slice fa F.length fc) (.slice ra R.length rc) vs' E K F R) ∧ ((ansId (K.getD (fd - 1).toNat lk0) fe fs) ≠ 0 → e = .returned (.tuple #[.int .i64 (ansId (K.getD (fd - 1).toNat lk0) fe fs), errV 0]) ∧ ∃ vs', GOwn B w' (.slice ea E.length ec) (.slice ka K.length kc) (.slice fa F.length fc) (.slice ra R.length rc) vs' E (K.set (fd - 1).toNat (ansK (K.getD (fd - 1).toNat lk0) fe fs)) F R) := by
  have hmi : ∀ (v : Value) (w : World), (Instr.makeInterface 136 v).run Tryz.prog w = .ok (.iface 136 v) w := fun v w => by kernel_rfl
  obtain ⟨m, hmd⟩ : ∃ m : Nat, fd = (m : Int) + 1 := ⟨(fd - 1).toNat, by omega⟩
  have hwm : IntKind.i64.wrap (fd - 1) = (m : Int) := by rw [show fd - 1 = (m : Int) by omega]; exact IntWalk.i64_in _ (by omega)
  have hmk : (m : Int) < (K.length : Int) := by omega
  have hmk2 : (m : Int) < de := by omega
  have hmj : m < K.length := by omega
  obtain ⟨gk, rfl, hgk2⟩ := own_some h.lkO (by rw [rawOf_len h.len]; omega)
  have hgk1 : B ≤ gk := (World.ownsRow.lt h.lkO gk rfl).1
  obtain ⟨kk, hkk⟩ : ∃ k, k = K[m] := ⟨_, rfl⟩
  have HGD := Lib.hid (getD_at hmj hmd hkk.symm)
  obtain ⟨id, hid⟩ : ∃ x, x = (ansId (K.getD (fd - 1).toNat lk0) fe fs) := ⟨_, rfl⟩
  rw [← hid]
  have HID := Lib.hid (show id = ansId kk fe fs by rw [hid, HGD.out.1])
  clear hid
  obtain ⟨W0, hW0⟩ : ∃ W, W = w.alloc (.cells #[.int .i64 kd, .int .i64 fd, .int .i64 fe, .int .i64 fs, .int .i64 fi, .string fb] 51) := ⟨_, rfl⟩
  have hb := bOne w (.cells #[.int .i64 kd, .int .i64 fd, .int .i64 fe, .int .i64 fs, .int .i64 fi, .string fb] 51)
  have HC : Hid (Box W0 w.heap.size 51 [.int .i64 kd, .int .i64 fd, .int .i64 fe, .int .i64 fs, .int .i64 fi, .string fb]) := Lib.hid (by rw [hW0]; exact Box.new w [.int .i64 kd, .int .i64 fd, .int .i64 fe, .int .i64 fs, .int .i64 fi, .string fb] 51)
  rw [← hW0] at hb
  have HX := Lib.hid (hx.below hb)
  have HO := Lib.hid (h.below hb)
  have HL := Lib.hid (hb.mono hB)
  have HBW := Lib.hid (Nat.le_trans hB hb.size)
  have HW0 := Lib.hid (hb.size)
  have HWE := Lib.hid hW0
  have HSM := Lib.hid hs
  have HMJ := Lib.hid hmj
  have HKK := Lib.hid (show kk = K[m]'HMJ.out from hkk)
  have HO0 := Lib.hid (And.intro h.len h.body)
  obtain ⟨kt, hkt⟩ : ∃ k, k = w.heap.size := ⟨_, rfl⟩
  rw [← hkt] at HC
  clear hx h hb hW0 hs hmj hkk hmd hgk2
  go_enter Tryz.func165, Tryz.ntmps165
  go_upto_region 1 with fail
  rw [← HWE.out, ← hkt]
  clear HWE hkt
  have hb := below_drew' (Below.refl W0.heap.size W0)
  replace HX := Lib.hid (HX.out.below hb)
  replace HO := Lib.hid (HO.out.below hb)
  replace HC := Lib.hid (HC.out.below hb)
  replace HL := Lib.hid (HL.out.trans (hb.mono HBW.out))
  replace HBW := Lib.hid (Nat.le_trans HBW.out hb.size)
  replace HW0 := Lib.hid (Nat.le_trans HW0.out hb.size)
  clear hb
  refine wp_region_held_drew (S := fun w' => w'.cell? ⟨kb, 14, none⟩ = some (.slice (some ⟨gk, 0, none⟩) K.length kc) ∧ w'.cell? ⟨kt, 1, none⟩ = some (.int .i64 fd)) (by kernel_rfl) ⟨HX.out.cell 14 _ rfl, HC.out.cell 1 _ rfl⟩ (fun hHeld => ?_)
  obtain ⟨wa, hwa⟩ : ∃ x, x = W0.drew := ⟨_, rfl⟩
  rw [← hwa] at HX HO HL HBW HC HW0 hHeld ⊢
  clear hwa
  refine wpAnyH_take (i := 0) (oi := { dst := some _, op := _, type := _, pos := _, after := _, guard := _ }) (v := ?_) rfl (by kernel_rfl) (by kernel_rfl) (by kernel_rfl) (fun _ _ _ h => h) ?_ (by with_reducible assumption) ?_
  rotate_left 1
  focus (refine Or.inl ⟨by rfl, ?_⟩; intro wq hSw; have q0 := hSw.1; have q1 := hSw.2; go_simp; try with_reducible rfl)
  try simp only [Act.put, List.setIfInBounds_toArray, List.set_cons_zero, List.set_cons_succ]
  refine wpAnyH_take (i := 1) (oi := { dst := some _, op := _, type := _, pos := _, after := _, guard := _ }) (v := ?_) rfl (by kernel_rfl) (by kernel_rfl) (by kernel_rfl) (fun _ _ _ h => h) ?_ (by with_reducible assumption) ?_
  rotate_left 1
  focus (refine Or.inl ⟨by rfl, ?_⟩; intro wq hSw; have q0 := hSw.1; have q1 := hSw.2; go_simp; try with_reducible rfl)
  try simp only [Act.put, List.setIfInBounds_toArray, List.set_cons_zero, List.set_cons_succ]
  refine wpAnyH_take (i := 2) (oi := { dst := some _, op := _, type := _, pos := _, after := _, guard := _ }) (v := ?_) rfl (by kernel_rfl) (by kernel_rfl) (by kernel_rfl) (fun _ _ _ h => h) ?_ (by with_reducible assumption) ?_
  rotate_left 1
  focus (refine Or.inl ⟨by rfl, ?_⟩; intro wq hSw; have q0 := hSw.1; have q1 := hSw.2; go_simp; try with_reducible rfl)
  try simp only [Act.put, List.setIfInBounds_toArray, List.set_cons_zero, List.set_cons_succ]
  refine wpAnyH_take (i := 3) (oi := { dst := some _, op := _, type := _, pos := _, after := _, guard := _ }) (v := ?_) rfl (by kernel_rfl) (by kernel_rfl) (by kernel_rfl) (fun _ _ _ h => h) ?_ (by with_reducible assumption) ?_
  rotate_left 1
  focus (refine Or.inl ⟨by rfl, ?_⟩; intro wq hSw; have q0 := hSw.1; have q1 := hSw.2; go_simp; try with_reducible rfl)
  try simp only [Act.put, List.setIfInBounds_toArray, List.set_cons_zero, List.set_cons_succ]
  refine wpAnyH_take (i := 4) (oi := { dst := some _, op := _, type := _, pos := _, after := _, guard := _ }) (v := ?_) rfl (by kernel_rfl) (by kernel_rfl) (by kernel_rfl) (fun _ _ _ h => h) ?_ (by with_reducible assumption) ?_
  rotate_left 1
  focus (refine Or.inl ⟨by rfl, ?_⟩; intro wq hSw; have q0 := hSw.1; have q1 := hSw.2; go_simp; try with_reducible rfl)
  try simp only [Act.put, List.setIfInBounds_toArray, List.set_cons_zero, List.set_cons_succ]
  refine wpAnyH_take (i := 5) (oi := { dst := some _, op := _, type := _, pos := _, after := _, guard := _ }) (v := ?_) rfl (by kernel_rfl) (by kernel_rfl) (by kernel_rfl) (fun _ _ _ h => h) ?_ (by with_reducible assumption) ?_
  rotate_left 1
  focus (refine Or.inl ⟨by rfl, ?_⟩; intro wq hSw; have q0 := hSw.1; have q1 := hSw.2; go_simp; try with_reducible rfl)
  try simp only [Act.put, List.setIfInBounds_toArray, List.set_cons_zero, List.set_cons_succ]
  refine wpAnyH_take (i := 6) (oi := { dst := some _, op := _, type := _, pos := _, after := _, guard := _ }) (v := ?_) rfl (by kernel_rfl) (by kernel_rfl) (by kernel_rfl) (fun _ _ _ h => h) ?_ (by with_reducible assumption) ?_
  rotate_left 1
  focus (refine Or.inl ⟨by rfl, ?_⟩; intro wq hSw; have q0 := hSw.1; have q1 := hSw.2; go_simp; try with_reducible rfl)
  try simp only [Act.put, List.setIfInBounds_toArray, List.set_cons_zero, List.set_cons_succ]
  refine wpAnyH_take (i := 7) (oi := { dst := some _, op := _, type := _, pos := _, after := _, guard := _ }) (v := ?_) rfl (by kernel_rfl) (by kernel_rfl) (by kernel_rfl) (fun _ _ _ h => h) ?_ (by with_reducible assumption) ?_
  rotate_left 1
  focus (refine Or.inl ⟨by rfl, ?_⟩; intro wq hSw; have q0 := hSw.1; have q1 := hSw.2; go_simp; try with_reducible rfl)
  try simp only [Act.put, List.setIfInBounds_toArray, List.set_cons_zero, List.set_cons_succ]
  refine wpAnyH_take (i := 8) (oi := { dst := some _, op := _, type := _, pos := _, after := _, guard := _ }) (v := ?_) rfl (by kernel_rfl) (by kernel_rfl) (by kernel_rfl) (fun _ _ _ h => h) ?_ (by with_reducible assumption) ?_
  rotate_left 1
  focus (refine Or.inl ⟨by rfl, ?_⟩; intro wq hSw; have q0 := hSw.1; have q1 := hSw.2; go_simp; try with_reducible rfl)
  try simp only [Act.put, List.setIfInBounds_toArray, List.set_cons_zero, List.set_cons_succ]
  refine wpAnyH_take (i := 9) (oi := { dst := some _, op := _, type := _, pos := _, after := _, guard := _ }) (v := ?_) rfl (by kernel_rfl) (by kernel_rfl) (by kernel_rfl) (fun _ _ _ h => h) ?_ (by with_reducible assumption) ?_
  rotate_left 1
  focus (refine Or.inl ⟨by rfl, ?_⟩; intro wq hSw; have q0 := hSw.1; have q1 := hSw.2; go_simp; try with_reducible rfl)
  try simp only [Act.put, List.setIfInBounds_toArray, List.set_cons_zero, List.set_cons_succ]
  refine wpAnyH_done (by kernel_rfl) ?_ _
  clear hHeld
  go_upto_region 2 with fail
  have hmr : m < (rawOf K vs).length := by rw [rawOf_len HO.out.len]; exact HMJ.out
  have hmv : m < vs.length := by rw [HO.out.len]; exact HMJ.out
  have hfy := HO.out.fly m HMJ.out hmv
  obtain ⟨fa0, fc0, hvm⟩ := hfy.shape
  rw [hvm, ← HKK.out] at hfy
  obtain ⟨fl, hfl⟩ : ∃ n, n = kk.l.length := ⟨_, rfl⟩
  rw [← HKK.out, ← hfl] at hvm
  rw [← hfl] at hfy
  have hlk : ROwn lrS B wa 82 (.slice (some ⟨gk, 0, none⟩) K.length kc) (rawOf K vs) := HO.out.lkO
  have HC4 := Lib.hid (lown_cellx hlk m hmr (show (rawOf K vs)[m]'hmr = ⟨kk.up, kk.ep, kk.sq, .slice fa0 fl fc0⟩ from lr_of (rawOf_get m hmr HMJ.out hmv) HKK.out.symm hvm))
  have HY := Lib.hid (show YIs wa.heap.size wa fa0 fl kk.l from hfy.isN)
  have HYF := Lib.hid (show kk.l.length ≤ 1048576 from by rw [HKK.out]; exact HSM.out.2.2.1 _ (List.getElem_mem HMJ.out))
  clear hmr hmv hfy hvm hfl hlk
  have hb := below_drew' (Below.refl wa.heap.size wa)
  replace HX := Lib.hid (HX.out.below hb)
  replace HO := Lib.hid (HO.out.below hb)
  replace HC := Lib.hid (HC.out.below hb)
  replace HL := Lib.hid (HL.out.trans (hb.mono HBW.out))
  replace HBW := Lib.hid (Nat.le_trans HBW.out hb.size)
  replace HW0 := Lib.hid (Nat.le_trans HW0.out hb.size)
  replace HC4 := Lib.hid (c4_below HC4.out hb)
  replace HY := Lib.hid (HY.out.here hb)
  clear hb
  refine wp_region_held_drew (S := fun w' => w'.cell? ⟨gk, m * 4, none⟩ = some (.bool kk.up) ∧ w'.cell? ⟨gk, m * 4 + 1, none⟩ = some (.int .i64 kk.ep) ∧ w'.cell? ⟨gk, m * 4 + 2, none⟩ = some (.int .i64 kk.sq) ∧ w'.cell? ⟨gk, m * 4 + 3, none⟩ = some (.slice fa0 fl fc0) ∧ w'.cell? ⟨kt, 2, none⟩ = some (.int .i64 fe) ∧ w'.cell? ⟨kt, 3, none⟩ = some (.int .i64 fs)) (by kernel_rfl) ⟨HC4.out.c0, HC4.out.c1, HC4.out.c2, HC4.out.c3, HC.out.cell 2 _ rfl, HC.out.cell 3 _ rfl⟩ (fun hHeld => ?_)
  obtain ⟨wd, hwd⟩ : ∃ x, x = wa.drew := ⟨_, rfl⟩
  rw [← hwd] at HX HO HL HBW HC HC4 HY HW0 hHeld ⊢
  clear hwd
  refine wpAnyH_take (i := 0) (oi := { dst := some _, op := _, type := _, pos := _, after := _, guard := _ }) (v := ?_) rfl (by kernel_rfl) (by kernel_rfl) (by kernel_rfl) (fun _ _ _ h => h) ?_ (by with_reducible assumption) ?_
  rotate_left 1
  focus (refine Or.inl ⟨by rfl, ?_⟩; intro wq hSw; go_simp; try with_reducible rfl)
  try simp only [Act.put, List.setIfInBounds_toArray, List.set_cons_zero, List.set_cons_succ]
  refine wpAnyH_take (i := 1) (oi := { dst := some _, op := _, type := _, pos := _, after := _, guard := _ }) (v := ?_) rfl (by kernel_rfl) (by kernel_rfl) (by kernel_rfl) (fun _ _ _ h => h) ?_ (by with_reducible assumption) ?_
  rotate_left 1
  focus (refine Or.inl ⟨by rfl, ?_⟩; intro wq hSw; go_simp; try with_reducible rfl)
  try simp only [Act.put, List.setIfInBounds_toArray, List.set_cons_zero, List.set_cons_succ]
  refine wpAnyH_take (i := 2) (oi := { dst := some _, op := _, type := _, pos := _, after := _, guard := _ }) (v := ?_) rfl (by kernel_rfl) (by kernel_rfl) (by kernel_rfl) (fun _ _ _ h => h) ?_ (by with_reducible assumption) ?_
  rotate_left 1
  focus (refine Or.inl ⟨by rfl, ?_⟩; intro wq hSw; have q0 := hSw.1; have q1 := hSw.2.1; have q2 := hSw.2.2.1; have q3 := hSw.2.2.2.1; go_simp; try with_reducible rfl)
  try simp only [Act.put, List.setIfInBounds_toArray, List.set_cons_zero, List.set_cons_succ]
  refine wpAnyH_take (i := 3) (oi := { dst := some _, op := _, type := _, pos := _, after := _, guard := _ }) (v := ?_) rfl (by kernel_rfl) (by kernel_rfl) (by kernel_rfl) (fun _ _ _ h => h) ?_ (by with_reducible assumption) ?_
  rotate_left 1
  focus (refine Or.inl ⟨by rfl, ?_⟩; intro wq hSw; go_simp; try with_reducible rfl)
  try simp only [Act.put, List.setIfInBounds_toArray, List.set_cons_zero, List.set_cons_succ]
  refine wpAnyH_take (i := 4) (oi := { dst := some _, op := _, type := _, pos := _, after := _, guard := _ }) (v := ?_) rfl (by kernel_rfl) (by kernel_rfl) (by kernel_rfl) (fun _ _ _ h => h) ?_ (by with_reducible assumption) ?_
  rotate_left 1
  focus (refine Or.inl ⟨by rfl, ?_⟩; intro wq hSw; have q := hSw.2.2.2.2.1; go_simp; try with_reducible rfl)
  try simp only [Act.put, List.setIfInBounds_toArray, List.set_cons_zero, List.set_cons_succ]
  refine wpAnyH_take (i := 5) (oi := { dst := some _, op := _, type := _, pos := _, after := _, guard := _ }) (v := ?_) rfl (by kernel_rfl) (by kernel_rfl) (by kernel_rfl) (fun _ _ _ h => h) ?_ (by with_reducible assumption) ?_
  rotate_left 1
  focus (refine Or.inl ⟨by rfl, ?_⟩; intro wq hSw; go_simp; try with_reducible rfl)
  try simp only [Act.put, List.setIfInBounds_toArray, List.set_cons_zero, List.set_cons_succ]
  refine wpAnyH_take (i := 6) (oi := { dst := some _, op := _, type := _, pos := _, after := _, guard := _ }) (v := ?_) rfl (by kernel_rfl) (by kernel_rfl) (by kernel_rfl) (fun _ _ _ h => h) ?_ (by with_reducible assumption) ?_
  rotate_left 1
  focus (refine Or.inl ⟨by rfl, ?_⟩; intro wq hSw; have q := hSw.2.2.2.2.2; go_simp; try with_reducible rfl)
  try simp only [Act.put, List.setIfInBounds_toArray, List.set_cons_zero, List.set_cons_succ]
  refine wpAnyH_ready (rs := [7, 11]) (by kernel_rfl) (by simp) ?_
  refine AllReadyH.cons rfl (fun KC hKC => ?_) ?_
  · go_simp
    refine (Lnk.answer_any _ fa0 fl fc0 kk.up kk.ep kk.sq kk.l fe fs HY.out (by have := HY.out.hlen; have := HYF.out; omega)).mono ?_
    rintro e v1 ⟨⟨a2, cap2, rfl, hoy⟩, hb⟩
    obtain ⟨k2, hk2⟩ : ∃ k, k = ansK kk fe fs := ⟨_, rfl⟩
    rw [show ansL kk.up kk.ep kk.sq kk.l fe fs = k2.l by rw [hk2]; rfl] at hoy ⊢
    rw [show ansI kk.up kk.ep kk.sq kk.l fe fs = id by rw [HID.out]; rfl]
    rw [show kk.up = k2.up by rw [hk2]; rfl, show kk.ep = k2.ep by rw [hk2]; rfl, show kk.sq = k2.sq by rw [hk2]; rfl]
    obtain ⟨n2, hn2⟩ : ∃ n, n = k2.l.length := ⟨_, rfl⟩
    rw [← hn2] at hoy ⊢
    have HK2 := Lib.hid hk2
    have HRW := Lib.hid (HO.out.rows.new (r := flR (.slice a2 n2 cap2) k2.l) hb hoy HBW.out)
    replace HX := Lib.hid (HX.out.below hb)
    replace HO := Lib.hid (HO.out.below hb)
    replace HC := Lib.hid (HC.out.below hb)
    replace HL := Lib.hid (HL.out.trans (hb.mono HBW.out))
    replace HBW := Lib.hid (Nat.le_trans HBW.out hb.size)
    replace HW0 := Lib.hid (Nat.le_trans HW0.out hb.size)
    replace HC4 := Lib.hid (c4_below HC4.out hb)
    replace HY := Lib.hid (HY.out.here hb)
    clear hb hoy hk2 hn2 hHeld
    dsimp only
    refine hKC.out _ _ (⟨HC4.out.c0, HC4.out.c1, HC4.out.c2, HC4.out.c3, HC.out.cell 2 _ rfl, HC.out.cell 3 _ rfl⟩) (fun hHeld => ?_)
    clear hKC
    try simp only [Act.put, List.setIfInBounds_toArray, List.set_cons_zero, List.set_cons_succ]
    refine wpAnyH_take (i := 8) (oi := { dst := some _, op := _, type := _, pos := _, after := _, guard := _ }) (v := ?_) rfl (by kernel_rfl) (by kernel_rfl) (by kernel_rfl) (fun _ _ _ h => h) ?_ (by with_reducible assumption) ?_
    rotate_left 1
    focus (refine Or.inl ⟨by rfl, ?_⟩; intro wq hSw; go_simp; try with_reducible rfl)
    try simp only [Act.put, List.setIfInBounds_toArray, List.set_cons_zero, List.set_cons_succ]
    refine wpAnyH_take (i := 9) (oi := { dst := some _, op := _, type := _, pos := _, after := _, guard := _ }) (v := ?_) rfl (by kernel_rfl) (by kernel_rfl) (by kernel_rfl) (fun _ _ _ h => h) ?_ (by with_reducible assumption) ?_
    rotate_left 1
    focus (refine Or.inl ⟨by rfl, ?_⟩; intro wq hSw; go_simp; try with_reducible rfl)
    try simp only [Act.put, List.setIfInBounds_toArray, List.set_cons_zero, List.set_cons_succ]
    refine wpAnyH_take (i := 10) (oi := { dst := some _, op := _, type := _, pos := _, after := _, guard := _ }) (v := ?_) rfl (by kernel_rfl) (by kernel_rfl) (by kernel_rfl) (fun _ _ _ h => h) ?_ (by with_reducible assumption) ?_
    rotate_left 1
    focus (refine Or.inl ⟨by rfl, ?_⟩; intro wq hSw; go_simp; try with_reducible rfl)
    try simp only [Act.put, List.setIfInBounds_toArray, List.set_cons_zero, List.set_cons_succ]
    refine wpAnyH_ready (rs := [11]) (by kernel_rfl) (by simp) ?_
    refine AllReadyH.cons rfl (fun KB hKB => ?_) AllReadyH.nil
    obtain ⟨k8, hk8⟩ : ∃ k, k = v1.heap.size := ⟨_, rfl⟩
    have HK8 := Lib.hid (show B ≤ k8 by rw [hk8]; exact HBW.out)
    have HT8 := Lib.hid (show kt < k8 by rw [hk8]; exact HC.out.lt)
    have HX8 := Lib.hid (show kb < k8 by rw [hk8]; exact HX.out.lt)
    have HG8 := Lib.hid (show gk < k8 by rw [hk8]; exact World.block_lt_of_cell? _ _ HC4.out.c0)
    have hb := bOne v1 (.cells #[.bool false, .int .i64 0, .int .i64 0, .slice none 0 0] 82)
    have HB8 := Lib.hid (show Box (v1.alloc (.cells #[.bool false, .int .i64 0, .int .i64 0, .slice none 0 0] 82)) k8 82 [.bool false, .int .i64 0, .int .i64 0, .slice none 0 0] by rw [hk8]; exact Box.new v1 [.bool false, .int .i64 0, .int .i64 0, .slice none 0 0] 82)
    have HNE8 := Lib.hid (fun r (hr : r ∈ flR (.slice a2 n2 cap2) k2.l :: gRows (.slice ea E.length ec) (.slice (some ⟨gk, 0, none⟩) K.length kc) (.slice fa F.length fc) (.slice ra R.length rc) vs E K F R) => ne_old (HRW.out.at_ r hr) hk8)
    go_simp
    rw [← hk8]
    replace HX := Lib.hid (HX.out.below hb)
    replace HO := Lib.hid (HO.out.below hb)
    replace HC := Lib.hid (HC.out.below hb)
    replace HL := Lib.hid (HL.out.trans (hb.mono HBW.out))
    replace HBW := Lib.hid (Nat.le_trans HBW.out hb.size)
    replace HW0 := Lib.hid (Nat.le_trans HW0.out hb.size)
    replace HC4 := Lib.hid (c4_below HC4.out hb)
    replace HY := Lib.hid (HY.out.here hb)
    replace HRW := Lib.hid (HRW.out.below hb)
    clear hb hk8 hHeld
    refine hKB.out _ _ (⟨HC4.out.c0, HC4.out.c1, HC4.out.c2, HC4.out.c3, HC.out.cell 2 _ rfl, HC.out.cell 3 _ rfl⟩) (fun hHeld => ?_)
    clear hKB
    try simp only [Act.put, List.setIfInBounds_toArray, List.set_cons_zero, List.set_cons_succ]
    refine wpAnyH_ready (rs := [12]) (by kernel_rfl) (by simp) ?_
    refine AllReadyH.cons rfl (fun KS hKS => ?_) AllReadyH.nil
    refine step_store_box rfl _ _ 82 rfl rfl [.bool k2.up, .int .i64 k2.ep, .int .i64 k2.sq, .slice a2 n2 cap2] rfl HB8.out sizeLnk rfl rfl ?_
    intro v3 hXb hgV hlV
    replace HX := Lib.hid (HX.out.grown hgV (by have := HX8.out; simp; omega))
    replace HC := Lib.hid (HC.out.grown hgV (by have := HT8.out; simp; omega))
    replace HC4 := Lib.hid (c4_grown HC4.out hgV (by have := HG8.out; simp; omega))
    replace HL := Lib.hid (hlV B w HK8.out HL.out)
    replace HRW := Lib.hid (HRW.out.kept hgV (fun r hr => HNE8.out r hr))
    replace HBW := Lib.hid (Nat.le_trans HBW.out hgV.size)
    have HBX := Lib.hid hXb
    clear hXb hgV hlV hHeld
    refine hKS.out _ _ (⟨HC4.out.c0, HC4.out.c1, HC4.out.c2, HC4.out.c3, HC.out.cell 2 _ rfl, HC.out.cell 3 _ rfl⟩) (fun hHeld => ?_)
    clear hKS
    try simp only [Act.put, List.setIfInBounds_toArray, List.set_cons_zero, List.set_cons_succ]
    refine wpAnyH_take (i := 13) (oi := { dst := some _, op := _, type := _, pos := _, after := _, guard := _ }) (v := ?_) rfl (by kernel_rfl) (by kernel_rfl) (by kernel_rfl) (fun _ _ _ h => h) ?_ (by with_reducible assumption) ?_
    rotate_left 1
    focus (refine Or.inl ⟨by rfl, ?_⟩; intro wq hSw; go_simp; try with_reducible rfl)
    try simp only [Act.put, List.setIfInBounds_toArray, List.set_cons_zero, List.set_cons_succ]
    refine wpAnyH_done (by kernel_rfl) ?_ _
    clear hHeld
    have HO := Lib.hid (show GOwn B v3 (.slice ea E.length ec) (.slice (some ⟨gk, 0, none⟩) K.length kc) (.slice fa F.length fc) (.slice ra R.length rc) vs E K F R from ⟨HRW.out.tail, HO0.out.1, HO0.out.2⟩)
    by_cases h0 : id = 0
    · have hz : (id == 0) = true := by simpa using h0
      go_wp2_with fail
      go_ret2
      exact ⟨HX.out, HL.out, fun _ => ⟨by rw [errV_ne (by decide)]; rfl, vs, HO.out⟩, fun h => absurd h0 h⟩
    · have hz : (id == 0) = false := by simpa using h0
      have hro : ROwn lrS B v3 82 (.slice (some ⟨gk, 0, none⟩) K.length kc) (rawOf K vs) := HO.out.lkO
      have hmr : m < (rawOf K vs).length := by rw [rawOf_len HO.out.len]; exact HMJ.out
      obtain ⟨⟨z0, z1, z2, z3, hzz, d0, d1, d2, d3⟩, f0, f1, f2, f3⟩ := lown_at hro m hmr
      have hst := lown_set hro m hmr k2.up k2.ep k2.sq (.slice a2 n2 cap2)
      go_upto_region 6 with (first | (refine wpList_load_box rfl _ 82 rfl rfl HBX.out _ Tryz.underlying82 sizeLnk ?_) | fail)
      obtain ⟨w8, hw8⟩ : ∃ V, V = (((v3.setCell ⟨gk, m * 4, none⟩ (.bool k2.up)).setCell ⟨gk, m * 4 + 1, none⟩ (.int .i64 k2.ep)).setCell ⟨gk, m * 4 + 2, none⟩ (.int .i64 k2.sq)).setCell ⟨gk, m * 4 + 3, none⟩ (.slice a2 n2 cap2) := ⟨_, rfl⟩
      rw [← hw8] at hst ⊢
      have ho8 := GOwn.setLk (k := k2) m HO.out HRW.out hst.2 hst.1
      have hat : (lrR (.slice (some ⟨gk, 0, none⟩) K.length kc) (rawOf K vs)).At B v3 := hro
      replace HX := Lib.hid (HX.out.grown hst.2 (hat.ne_box rfl HX.out rfl))
      replace HL := Lib.hid (HL.out.grown hst.2 HBW.out (fun q e => by cases e; exact hgk1))
      have HE := Lib.hid (show K.set (fd - 1).toNat (ansK (K.getD (fd - 1).toNat lk0) fe fs) = K.set m k2 by rw [HGD.out.1, HGD.out.2, HK2.out])
      clear hst hw8 hat hro hmr hzz d0 d1 d2 d3 f0 f1 f2 f3
      go_wp2_with fail
      go_ret2
      exact ⟨HX.out, HL.out, fun h => absurd h h0, fun _ => ⟨rfl, _, by rw [HE.out]; exact ho8⟩⟩
  · refine AllReadyH.cons rfl (fun KB hKB => ?_) AllReadyH.nil
    obtain ⟨k8, hk8⟩ : ∃ k, k = wd.heap.size := ⟨_, rfl⟩
    have HK8 := Lib.hid (show B ≤ k8 by rw [hk8]; exact HBW.out)
    have HT8 := Lib.hid (show kt < k8 by rw [hk8]; exact HC.out.lt)
    have HX8 := Lib.hid (show kb < k8 by rw [hk8]; exact HX.out.lt)
    have HG8 := Lib.hid (show gk < k8 by rw [hk8]; exact World.block_lt_of_cell? _ _ HC4.out.c0)
    have hb := bOne wd (.cells #[.bool false, .int .i64 0, .int .i64 0, .slice none 0 0] 82)
    have HB8 := Lib.hid (show Box (wd.alloc (.cells #[.bool false, .int .i64 0, .int .i64 0, .slice none 0 0] 82)) k8 82 [.bool false, .int .i64 0, .int .i64 0, .slice none 0 0] by rw [hk8]; exact Box.new wd [.bool false, .int .i64 0, .int .i64 0, .slice none 0 0] 82)
    have HNEg := Lib.hid (fun r (hr : r ∈ gRows (.slice ea E.length ec) (.slice (some ⟨gk, 0, none⟩) K.length kc) (.slice fa F.length fc) (.slice ra R.length rc) vs E K F R) => ne_old (HO.out.rows.at_ r hr) hk8)
    have HK8s := Lib.hid (show k8 < wd.heap.size + 1 by omega)
    go_simp
    rw [← hk8]
    replace HX := Lib.hid (HX.out.below hb)
    replace HO := Lib.hid (HO.out.below hb)
    replace HC := Lib.hid (HC.out.below hb)
    replace HL := Lib.hid (HL.out.trans (hb.mono HBW.out))
    replace HBW := Lib.hid (Nat.le_trans HBW.out hb.size)
    replace HW0 := Lib.hid (Nat.le_trans HW0.out hb.size)
    replace HC4 := Lib.hid (c4_below HC4.out hb)
    replace HY := Lib.hid (HY.out.here hb)
    clear hb hk8 hHeld
    refine hKB.out _ _ (⟨HC4.out.c0, HC4.out.c1, HC4.out.c2, HC4.out.c3, HC.out.cell 2 _ rfl, HC.out.cell 3 _ rfl⟩) (fun hHeld => ?_)
    clear hKB
    try simp only [Act.put, List.setIfInBounds_toArray, List.set_cons_zero, List.set_cons_succ]
    refine wpAnyH_ready (rs := [7]) (by kernel_rfl) (by simp) ?_
    refine AllReadyH.cons rfl (fun KC hKC => ?_) AllReadyH.nil
    go_simp
    refine (Lnk.answer_any _ fa0 fl fc0 kk.up kk.ep kk.sq kk.l fe fs HY.out (by have := HY.out.hlen; have := HYF.out; omega)).mono ?_
    rintro e v1 ⟨⟨a2, cap2, rfl, hoy⟩, hb⟩
    obtain ⟨k2, hk2⟩ : ∃ k, k = ansK kk fe fs := ⟨_, rfl⟩
    rw [show ansL kk.up kk.ep kk.sq kk.l fe fs = k2.l by rw [hk2]; rfl] at hoy ⊢
    rw [show ansI kk.up kk.ep kk.sq kk.l fe fs = id by rw [HID.out]; rfl]
    rw [show kk.up = k2.up by rw [hk2]; rfl, show kk.ep = k2.ep by rw [hk2]; rfl, show kk.sq = k2.sq by rw [hk2]; rfl]
    obtain ⟨n2, hn2⟩ : ∃ n, n = k2.l.length := ⟨_, rfl⟩
    rw [← hn2] at hoy ⊢
    have HK2 := Lib.hid hk2
    have HNE8 := Lib.hid (fun r (hr : r ∈ flR (.slice a2 n2 cap2) k2.l :: gRows (.slice ea E.length ec) (.slice (some ⟨gk, 0, none⟩) K.length kc) (.slice fa F.length fc) (.slice ra R.length rc) vs E K F R) => show r.v.ownBlock = none ∨ r.v.ownBlock ≠ some k8 from by
      rcases List.mem_cons.1 hr with rfl | hr
      · cases hv : (Value.slice a2 n2 cap2).ownBlock with
        | none => exact .inl hv
        | some q => exact .inr (fun e => by have h1 := (World.ownsRow.lt hoy q hv).1; rw [show (flR (Value.slice a2 n2 cap2) k2.l).v = Value.slice a2 n2 cap2 from rfl, hv] at e; injection e; simp at h1; have := HK8s.out; omega)
      · exact HNEg.out r hr)
    have HRW := Lib.hid (HO.out.rows.new (r := flR (.slice a2 n2 cap2) k2.l) hb hoy HBW.out)
    replace HB8 := Lib.hid (HB8.out.below hb)
    replace HX := Lib.hid (HX.out.below hb)
    replace HO := Lib.hid (HO.out.below hb)
    replace HC := Lib.hid (HC.out.below hb)
    replace HL := Lib.hid (HL.out.trans (hb.mono HBW.out))
    replace HBW := Lib.hid (Nat.le_trans HBW.out hb.size)
    replace HW0 := Lib.hid (Nat.le_trans HW0.out hb.size)
    replace HC4 := Lib.hid (c4_below HC4.out hb)
    replace HY := Lib.hid (HY.out.here hb)
    clear hb hoy hk2 hn2 hHeld
    dsimp only
    refine hKC.out _ _ (⟨HC4.out.c0, HC4.out.c1, HC4.out.c2, HC4.out.c3, HC.out.cell 2 _ rfl, HC.out.cell 3 _ rfl⟩) (fun hHeld => ?_)
    clear hKC
    try simp only [Act.put, List.setIfInBounds_toArray, List.set_cons_zero, List.set_cons_succ]
    refine wpAnyH_take (i := 8) (oi := { dst := some _, op := _, type := _, pos := _, after := _, guard := _ }) (v := ?_) rfl (by kernel_rfl) (by kernel_rfl) (by kernel_rfl) (fun _ _ _ h => h) ?_ (by with_reducible assumption) ?_
    rotate_left 1
    focus (refine Or.inl ⟨by rfl, ?_⟩; intro wq hSw; go_simp; try with_reducible rfl)
    try simp only [Act.put, List.setIfInBounds_toArray, List.set_cons_zero, List.set_cons_succ]
    refine wpAnyH_take (i := 9) (oi := { dst := some _, op := _, type := _, pos := _, after := _, guard := _ }) (v := ?_) rfl (by kernel_rfl) (by kernel_rfl) (by kernel_rfl) (fun _ _ _ h => h) ?_ (by with_reducible assumption) ?_
    rotate_left 1
    focus (refine Or.inl ⟨by rfl, ?_⟩; intro wq hSw; go_simp; try with_reducible rfl)
    try simp only [Act.put, List.setIfInBounds_toArray, List.set_cons_zero, List.set_cons_succ]
    refine wpAnyH_take (i := 10) (oi := { dst := some _, op := _, type := _, pos := _, after := _, guard := _ }) (v := ?_) rfl (by kernel_rfl) (by kernel_rfl) (by kernel_rfl) (fun _ _ _ h => h) ?_ (by with_reducible assumption) ?_
    rotate_left 1
    focus (refine Or.inl ⟨by rfl, ?_⟩; intro wq hSw; go_simp; try with_reducible rfl)
    try simp only [Act.put, List.setIfInBounds_toArray, List.set_cons_zero, List.set_cons_succ]
    refine wpAnyH_ready (rs := [12]) (by kernel_rfl) (by simp) ?_
    refine AllReadyH.cons rfl (fun KS hKS => ?_) AllReadyH.nil
    refine step_store_box rfl _ _ 82 rfl rfl [.bool k2.up, .int .i64 k2.ep, .int .i64 k2.sq, .slice a2 n2 cap2] rfl HB8.out sizeLnk rfl rfl ?_
    intro v3 hXb hgV hlV
    replace HX := Lib.hid (HX.out.grown hgV (by have := HX8.out; simp; omega))
    replace HC := Lib.hid (HC.out.grown hgV (by have := HT8.out; simp; omega))
    replace HC4 := Lib.hid (c4_grown HC4.out hgV (by have := HG8.out; simp; omega))
    replace HL := Lib.hid (hlV B w HK8.out HL.out)
    replace HRW := Lib.hid (HRW.out.kept hgV (fun r hr => HNE8.out r hr))
    replace HBW := Lib.hid (Nat.le_trans HBW.out hgV.size)
    have HBX := Lib.hid hXb
    clear hXb hgV hlV hHeld
    refine hKS.out _ _ (⟨HC4.out.c0, HC4.out.c1, HC4.out.c2, HC4.out.c3, HC.out.cell 2 _ rfl, HC.out.cell 3 _ rfl⟩) (fun hHeld => ?_)
    clear hKS
    try simp only [Act.put, List.setIfInBounds_toArray, List.set_cons_zero, List.set_cons_succ]
    refine wpAnyH_take (i := 13) (oi := { dst := some _, op := _, type := _, pos := _, after := _, guard := _ }) (v := ?_) rfl (by kernel_rfl) (by kernel_rfl) (by kernel_rfl) (fun _ _ _ h => h) ?_ (by with_reducible assumption) ?_
    rotate_left 1
    focus (refine Or.inl ⟨by rfl, ?_⟩; intro wq hSw; go_simp; try with_reducible rfl)
    try simp only [Act.put, List.setIfInBounds_toArray, List.set_cons_zero, List.set_cons_succ]
    refine wpAnyH_done (by kernel_rfl) ?_ _
    clear hHeld
    have HO := Lib.hid (show GOwn B v3 (.slice ea E.length ec) (.slice (some ⟨gk, 0, none⟩) K.length kc) (.slice fa F.length fc) (.slice ra R.length rc) vs E K F R from ⟨HRW.out.tail, HO0.out.1, HO0.out.2⟩)
    by_cases h0 : id = 0
    · have hz : (id == 0) = true := by simpa using h0
      go_wp2_with fail
      go_ret2
      exact ⟨HX.out, HL.out, fun _ => ⟨by rw [errV_ne (by decide)]; rfl, vs, HO.out⟩, fun h => absurd h0 h⟩
    · have hz : (id == 0) = false := by simpa using h0
      have hro : ROwn lrS B v3 82 (.slice (some ⟨gk, 0, none⟩) K.length kc) (rawOf K vs) := HO.out.lkO
      have hmr : m < (rawOf K vs).length := by rw [rawOf_len HO.out.len]; exact HMJ.out
      obtain ⟨⟨z0, z1, z2, z3, hzz, d0, d1, d2, d3⟩, f0, f1, f2, f3⟩ := lown_at hro m hmr
      have hst := lown_set hro m hmr k2.up k2.ep k2.sq (.slice a2 n2 cap2)
      go_upto_region 6 with (first | (refine wpList_load_box rfl _ 82 rfl rfl HBX.out _ Tryz.underlying82 sizeLnk ?_) | fail)
      obtain ⟨w8, hw8⟩ : ∃ V, V = (((v3.setCell ⟨gk, m * 4, none⟩ (.bool k2.up)).setCell ⟨gk, m * 4 + 1, none⟩ (.int .i64 k2.ep)).setCell ⟨gk, m * 4 + 2, none⟩ (.int .i64 k2.sq)).setCell ⟨gk, m * 4 + 3, none⟩ (.slice a2 n2 cap2) := ⟨_, rfl⟩
      rw [← hw8] at hst ⊢
      have ho8 := GOwn.setLk (k := k2) m HO.out HRW.out hst.2 hst.1
      have hat : (lrR (.slice (some ⟨gk, 0, none⟩) K.length kc) (rawOf K vs)).At B v3 := hro
      replace HX := Lib.hid (HX.out.grown hst.2 (hat.ne_box rfl HX.out rfl))
      replace HL := Lib.hid (HL.out.grown hst.2 HBW.out (fun q e => by cases e; exact hgk1))
      have HE := Lib.hid (show K.set (fd - 1).toNat (ansK (K.getD (fd - 1).toNat lk0) fe fs) = K.set m k2 by rw [HGD.out.1, HGD.out.2, HK2.out])
      clear hst hw8 hat hro hmr hzz d0 d1 d2 d3 f0 f1 f2 f3
      go_wp2_with fail
      go_ret2
      exact ⟨HX.out, HL.out, fun h => absurd h h0, fun _ => ⟨rfl, _, by rw [HE.out]; exact ho8⟩⟩

end Go.Proofs.YtkndpkingmemoaaGreatDoor.Gat
namespace Go.Proofs.YtkndpkingmemoaaGreatDoor.Gat
open Go.RowKit
open Lnk (bOne bAfter IOwn IIs YOwn YIs below_keep below_drew' bcell low_after low_alloc grown_of_below)
set_option linter.unusedVariables false
set_option linter.unusedSimpArgs false

theorem inR_new (w : World) (x : Int) : (inR (.slice (some ⟨w.heap.size, 0, none⟩) [x].length 1) [x]).At w.heap.size (w.alloc (.cells #[.int .i64 x] 3)) :=
  ⟨rfl, .inr ⟨w.heap.size, 1, #[.int .i64 x], rfl, Nat.le_refl _, heap_alloc_new w _, Nat.le_refl _, by unfold maxLen; omega, rfl, rfl⟩⟩
theorem keep1_eq (id : Int) (E : List Ev) : keepL [id] E = goneE id E := (goneAll_eq [id] E).symm
theorem back1_mapB {E : List Ev} (h : Inj E) (id : Int) : mapB [id] E = back1 E id := (backE_eq [id] h).symm

set_option maxRecDepth 100000 in
set_option maxHeartbeats 8000000 in
theorem ack_any (w : World) (B kb : Nat) (de qu wi ti qa bu le pb pc pj pt nw la : Int) (ea : Option Addr) (ec : Nat) (ka : Option Addr) (kc : Nat) (tu : Int) (fa : Option Addr) (fc : Nat) (ra : Option Addr) (rc : Nat) (tk ac dr : Int) (vs : List Value) (E : List Ev) (K : List Lk) (F R : List Int) (kd fd fe fs fi : Int) (fb : ByteArray) (hx : Box w kb 72 [.int .i64 de, .int .i64 qu, .int .i64 wi, .int .i64 ti, .int .i64 qa, .int .i64 bu, .int .i64 le, .int .i64 pb, .int .i64 pc, .int .i64 pj, .int .i64 pt, .int .i64 nw, .int .i64 la, .slice ea E.length ec, .slice ka K.length kc, .int .i64 tu, .slice fa F.length fc, .slice ra R.length rc, .int .i64 tk, .int .i64 ac, .int .i64 dr]) (hkb : B ≤ kb) (h : GOwn B w (.slice ea E.length ec) (.slice ka K.length kc) (.slice fa F.length fc) (.slice ra R.length rc) vs E K F R) (hB : B ≤ w.heap.size) (hs : Small E.length K.length F.length R.length K) (hkd : (K.length : Int) = de) (hde : de ≤ 1000) (hd1 : 1 ≤ fd) (hd2 : fd ≤ de) (hac : 0 ≤ ac ∧ ac ≤ 9999) :
    Calls Tryz.prog 146 #[.pointer (some ⟨kb, 0, none⟩), .agg #[.int .i64 kd, .int .i64 fd, .int .i64 fe, .int .i64 fs, .int .i64 fi, .string fb]] w fun e w' => ((ansId (K.getD (fd - 1).toNat lk0) fe fs) = 0 → e = .returned (.tuple #[.int .i64 0, errV 9]) ∧ Box w' kb 72 [.int .i64 de, .int .i64 qu, .int .i64 wi, .int .i64 ti, .int .i64 qa, .int .i64 bu, .int .i64 le, .int .i64 pb, .int .i64 pc, .int .i64 pj, .int .i64 pt, .int .i64 nw, .int .i64 la, .slice ea E.length ec, .slice ka K.length kc, .int .i64 tu, .slice fa F.length fc, .slice ra R.length rc, .int .i64 tk, .int .i64 ac, .int .i64 dr] ∧ ∃ vs', GOwn B w' (.slice ea E.length ec) (.slice ka K.length kc) (.slice fa F.length fc) (.slice ra R.length rc) vs' E K F R) ∧ ((ansId (K.getD (fd - 1).toNat lk0) fe fs) ≠ 0 → e = .returned (.tuple #[.int .i64 (ansId (K.getD (fd - 1).toNat lk0) fe fs), errV 0]) ∧ Box w' kb 72 [.int .i64 de, .int .i64 qu, .int .i64 wi, .int .i64 ti, .int .i64 qa, .int .i64 bu, .int .i64 le, .int .i64 pb, .int .i64 pc, .int .i64 pj, .int .i64 pt, .int .i64 nw, .int .i64 la, .slice ea (goneE (ansId (K.getD (fd - 1).toNat lk0) fe fs) E).length ec, .slice ka K.length kc, .int .i64 tu, .slice fa F.length fc, .slice ra R.length rc, .int .i64 tk, .int .i64 (ac + 1), .int .i64 dr] ∧ ∃ vs', GOwn B w' (.slice ea (goneE (ansId (K.getD (fd - 1).toNat lk0) fe fs) E).length ec) (.slice ka K.length kc) (.slice fa F.length fc) (.slice ra R.length rc) vs' (goneE (ansId (K.getD (fd - 1).toNat lk0) fe fs) E) (K.set (fd - 1).toNat (ansK (K.getD (fd - 1).toNat lk0) fe fs)) F R) ∧ Below B w w' := by
  have hmi : ∀ (v : Value) (w : World), (Instr.makeInterface 136 v).run Tryz.prog w = .ok (.iface 136 v) w := fun v w => by kernel_rfl
  obtain ⟨W0, hW0⟩ : ∃ W, W = w.alloc (.cells #[.int .i64 kd, .int .i64 fd, .int .i64 fe, .int .i64 fs, .int .i64 fi, .string fb] 51) := ⟨_, rfl⟩
  have hb := bOne w (.cells #[.int .i64 kd, .int .i64 fd, .int .i64 fe, .int .i64 fs, .int .i64 fi, .string fb] 51)
  have HC : Hid (Box W0 w.heap.size 51 [.int .i64 kd, .int .i64 fd, .int .i64 fe, .int .i64 fs, .int .i64 fi, .string fb]) := Lib.hid (by rw [hW0]; exact Box.new w [.int .i64 kd, .int .i64 fd, .int .i64 fe, .int .i64 fs, .int .i64 fi, .string fb] 51)
  rw [← hW0] at hb
  have HX := Lib.hid (hx.below hb)
  have HO := Lib.hid (h.below hb)
  have HL := Lib.hid (hb.mono hB)
  have HBW := Lib.hid (Nat.le_trans hB hb.size)
  have HWE := Lib.hid hW0
  have HSM := Lib.hid hs
  obtain ⟨kt, hkt⟩ : ∃ k, k = w.heap.size := ⟨_, rfl⟩
  rw [← hkt] at HC
  clear hx h hb hW0 hs
  obtain ⟨id, hid⟩ : ∃ x, x = (ansId (K.getD (fd - 1).toNat lk0) fe fs) := ⟨_, rfl⟩
  obtain ⟨KN, hKN⟩ : ∃ x, x = (K.set (fd - 1).toNat (ansK (K.getD (fd - 1).toNat lk0) fe fs)) := ⟨_, rfl⟩
  rw [← hid, ← hKN]
  have HID := Lib.hid hid
  have HKN := Lib.hid hKN
  have HKL := Lib.hid (show KN.length = K.length by rw [hKN, List.length_set])
  clear hid hKN
  go_enter Tryz.func146, Tryz.ntmps146
  go_upto_region 1 with fail
  rw [← HWE.out, ← hkt]
  clear HWE hkt

  go_wp2_with (first | (refine wpList_load_box rfl _ 51 rfl rfl HC.out _ Tryz.underlying51 sizeFrm ?_) | fail)
  refine (land_any W0 B kb de qu wi ti qa bu le pb pc pj pt nw la ea ec ka kc tu fa fc ra rc tk ac dr vs E K F R kd fd fe fs fi fb HX.out HO.out HBW.out HSM.out hkd hde hd1 hd2).mono ?_
  rintro e w1 ⟨hx, hl, h0, h1⟩
  rw [← HID.out] at h0 h1
  rw [← HKN.out] at h1
  replace HX := Lib.hid hx
  replace HL := Lib.hid (HL.out.trans hl)
  replace HBW := Lib.hid (Nat.le_trans HBW.out hl.size)
  clear hx hl HO HC
  by_cases hz : id = 0
  · obtain ⟨rfl, vs', ho⟩ := h0 hz
    have HO := Lib.hid ho
    have HZ := Lib.hid hz
    clear h0 h1 ho hz
    rw [show errV 9 = .iface 136 (.int .i64 9) from errV_ne (by decide)]
    go_wp2_with fail
    go_ret2
    exact ⟨fun _ => ⟨by rw [errV_ne (by decide)]; rfl, HX.out, vs', HO.out⟩, fun h => absurd HZ.out h, HL.out⟩
  · obtain ⟨rfl, vs', ho⟩ := h1 hz
    have HO := Lib.hid ho
    have HZ := Lib.hid hz
    clear h0 h1 ho hz
    rw [show errV 0 = .nilIface from rfl]
    have hb := bOne w1 (.cells #[.int .i64 id] 3)
    have HI := Lib.hid (inR_new w1 id)
    obtain ⟨w2, hw2⟩ : ∃ V, V = w1.alloc (.cells #[.int .i64 id] 3) := ⟨_, rfl⟩
    rw [← hw2] at hb HI
    replace HX := Lib.hid (HX.out.below hb)
    replace HO := Lib.hid (HO.out.below hb)
    replace HL := Lib.hid (HL.out.trans (hb.mono HBW.out))
    replace HBW := Lib.hid (Nat.le_trans HBW.out hb.size)
    have HWE := Lib.hid hw2
    have HEN := Lib.hid (show E.length ≤ 1048576 from HSM.out.1)
    clear hb hw2
    go_wp2_with fail
    rw [← HWE.out]
    clear HWE
    refine (keepRemove_any w2 B _ kb 72 [] de qu wi ti qa bu le pb pc pj pt nw la ea ec ka kc tu fa fc ra rc tk ac dr vs' E KN F R _ 1 [id] (show Box w2 kb 72 ([.int .i64 de, .int .i64 qu, .int .i64 wi, .int .i64 ti, .int .i64 qa, .int .i64 bu, .int .i64 le, .int .i64 pb, .int .i64 pc, .int .i64 pj, .int .i64 pt, .int .i64 nw, .int .i64 la, .slice ea E.length ec, .slice ka KN.length kc, .int .i64 tu, .slice fa F.length fc, .slice ra R.length rc, .int .i64 tk, .int .i64 ac, .int .i64 dr] ++ []) by rw [List.append_nil, HKL.out]; exact HX.out) rfl hkb (show GOwn B w2 (.slice ea E.length ec) (.slice ka KN.length kc) (.slice fa F.length fc) (.slice ra R.length rc) vs' E KN F R by rw [HKL.out]; exact HO.out) HBW.out HI.out HEN.out (by simp)).mono ?_
    rintro e w3 ⟨rfl, hx, ho, hl⟩
    rw [List.append_nil, keep1_eq, HKL.out] at hx
    rw [keep1_eq, HKL.out] at ho
    replace HX := Lib.hid hx
    replace HO := Lib.hid ho
    replace HL := Lib.hid (HL.out.trans hl)
    replace HBW := Lib.hid (Nat.le_trans HBW.out hl.size)
    clear hx ho hl HI
    have c19 := HX.out.cell 19 _ rfl
    have f19 := HX.out.frozen 19
    have hw1 : IntKind.i64.wrap (ac + 1) = ac + 1 := IntWalk.i64_in _ (by omega)
    go_wp2_with fail
    obtain ⟨V, hV⟩ : ∃ V, V = w3.setCell ⟨kb, 19, none⟩ (.int .i64 (ac + 1)) := ⟨_, rfl⟩
    have hg : w3.grownBy V (some kb) := by rw [hV]; exact store_grown [.int .i64 (ac + 1)] 19 _
    have hx2 : Box V kb 72 [.int .i64 de, .int .i64 qu, .int .i64 wi, .int .i64 ti, .int .i64 qa, .int .i64 bu, .int .i64 le, .int .i64 pb, .int .i64 pc, .int .i64 pj, .int .i64 pt, .int .i64 nw, .int .i64 la, .slice ea (goneE id E).length ec, .slice ka K.length kc, .int .i64 tu, .slice fa F.length fc, .slice ra R.length rc, .int .i64 tk, .int .i64 (ac + 1), .int .i64 dr] := by rw [hV]; exact Box.store [.int .i64 (ac + 1)] 19 _ _ HX.out
    have ho2 := GOwn.offbox4 HO.out HX.out rfl hg
    have hl2 : Below B w V := HL.out.grown hg HBW.out (fun q e => by cases e; exact hkb)
    rw [← hV]
    go_ret2
    exact ⟨fun h => absurd h HZ.out, fun _ => ⟨rfl, hx2, vs', ho2⟩, hl2⟩

set_option maxRecDepth 100000 in
set_option maxHeartbeats 8000000 in
theorem nack_any (w : World) (B kb : Nat) (de qu wi ti qa bu le pb pc pj pt nw la : Int) (ea : Option Addr) (ec : Nat) (ka : Option Addr) (kc : Nat) (tu : Int) (fa : Option Addr) (fc : Nat) (ra : Option Addr) (rc : Nat) (tk ac dr : Int) (vs : List Value) (E : List Ev) (K : List Lk) (F R : List Int) (kd fd fe fs fi : Int) (fb : ByteArray) (hx : Box w kb 72 [.int .i64 de, .int .i64 qu, .int .i64 wi, .int .i64 ti, .int .i64 qa, .int .i64 bu, .int .i64 le, .int .i64 pb, .int .i64 pc, .int .i64 pj, .int .i64 pt, .int .i64 nw, .int .i64 la, .slice ea E.length ec, .slice ka K.length kc, .int .i64 tu, .slice fa F.length fc, .slice ra R.length rc, .int .i64 tk, .int .i64 ac, .int .i64 dr]) (hkb : B ≤ kb) (h : GOwn B w (.slice ea E.length ec) (.slice ka K.length kc) (.slice fa F.length fc) (.slice ra R.length rc) vs E K F R) (hB : B ≤ w.heap.size) (hs : Small E.length K.length F.length R.length K) (hkd : (K.length : Int) = de) (hde : de ≤ 1000) (hd1 : 1 ≤ fd) (hd2 : fd ≤ de) :
    Calls Tryz.prog 147 #[.pointer (some ⟨kb, 0, none⟩), .agg #[.int .i64 kd, .int .i64 fd, .int .i64 fe, .int .i64 fs, .int .i64 fi, .string fb]] w fun e w' => ((ansId (K.getD (fd - 1).toNat lk0) fe fs) = 0 → e = .returned (.tuple #[.int .i64 0, errV 9]) ∧ Box w' kb 72 [.int .i64 de, .int .i64 qu, .int .i64 wi, .int .i64 ti, .int .i64 qa, .int .i64 bu, .int .i64 le, .int .i64 pb, .int .i64 pc, .int .i64 pj, .int .i64 pt, .int .i64 nw, .int .i64 la, .slice ea E.length ec, .slice ka K.length kc, .int .i64 tu, .slice fa F.length fc, .slice ra R.length rc, .int .i64 tk, .int .i64 ac, .int .i64 dr] ∧ ∃ vs', GOwn B w' (.slice ea E.length ec) (.slice ka K.length kc) (.slice fa F.length fc) (.slice ra R.length rc) vs' E K F R) ∧ ((ansId (K.getD (fd - 1).toNat lk0) fe fs) ≠ 0 → e = .returned (.tuple #[.int .i64 (ansId (K.getD (fd - 1).toNat lk0) fe fs), errV 1]) ∧ Box w' kb 72 [.int .i64 de, .int .i64 qu, .int .i64 wi, .int .i64 ti, .int .i64 qa, .int .i64 bu, .int .i64 le, .int .i64 pb, .int .i64 pc, .int .i64 pj, .int .i64 pt, .int .i64 nw, .int .i64 la, .slice ea E.length ec, .slice ka K.length kc, .int .i64 tu, .slice fa F.length fc, .slice ra R.length rc, .int .i64 tk, .int .i64 ac, .int .i64 dr] ∧ ∃ vs', GOwn B w' (.slice ea E.length ec) (.slice ka K.length kc) (.slice fa F.length fc) (.slice ra R.length rc) vs' (mapB [(ansId (K.getD (fd - 1).toNat lk0) fe fs)] E) (K.set (fd - 1).toNat (ansK (K.getD (fd - 1).toNat lk0) fe fs)) F R) ∧ Below B w w' := by
  have hmi : ∀ (v : Value) (w : World), (Instr.makeInterface 136 v).run Tryz.prog w = .ok (.iface 136 v) w := fun v w => by kernel_rfl
  obtain ⟨W0, hW0⟩ : ∃ W, W = w.alloc (.cells #[.int .i64 kd, .int .i64 fd, .int .i64 fe, .int .i64 fs, .int .i64 fi, .string fb] 51) := ⟨_, rfl⟩
  have hb := bOne w (.cells #[.int .i64 kd, .int .i64 fd, .int .i64 fe, .int .i64 fs, .int .i64 fi, .string fb] 51)
  have HC : Hid (Box W0 w.heap.size 51 [.int .i64 kd, .int .i64 fd, .int .i64 fe, .int .i64 fs, .int .i64 fi, .string fb]) := Lib.hid (by rw [hW0]; exact Box.new w [.int .i64 kd, .int .i64 fd, .int .i64 fe, .int .i64 fs, .int .i64 fi, .string fb] 51)
  rw [← hW0] at hb
  have HX := Lib.hid (hx.below hb)
  have HO := Lib.hid (h.below hb)
  have HL := Lib.hid (hb.mono hB)
  have HBW := Lib.hid (Nat.le_trans hB hb.size)
  have HWE := Lib.hid hW0
  have HSM := Lib.hid hs
  obtain ⟨kt, hkt⟩ : ∃ k, k = w.heap.size := ⟨_, rfl⟩
  rw [← hkt] at HC
  clear hx h hb hW0 hs
  obtain ⟨id, hid⟩ : ∃ x, x = (ansId (K.getD (fd - 1).toNat lk0) fe fs) := ⟨_, rfl⟩
  obtain ⟨KN, hKN⟩ : ∃ x, x = (K.set (fd - 1).toNat (ansK (K.getD (fd - 1).toNat lk0) fe fs)) := ⟨_, rfl⟩
  rw [← hid, ← hKN]
  have HID := Lib.hid hid
  have HKN := Lib.hid hKN
  have HKL := Lib.hid (show KN.length = K.length by rw [hKN, List.length_set])
  clear hid hKN
  go_enter Tryz.func147, Tryz.ntmps147
  go_upto_region 1 with fail
  rw [← HWE.out, ← hkt]
  clear HWE hkt

  go_wp2_with (first | (refine wpList_load_box rfl _ 51 rfl rfl HC.out _ Tryz.underlying51 sizeFrm ?_) | fail)
  refine (land_any W0 B kb de qu wi ti qa bu le pb pc pj pt nw la ea ec ka kc tu fa fc ra rc tk ac dr vs E K F R kd fd fe fs fi fb HX.out HO.out HBW.out HSM.out hkd hde hd1 hd2).mono ?_
  rintro e w1 ⟨hx, hl, h0, h1⟩
  rw [← HID.out] at h0 h1
  rw [← HKN.out] at h1
  replace HX := Lib.hid hx
  replace HL := Lib.hid (HL.out.trans hl)
  replace HBW := Lib.hid (Nat.le_trans HBW.out hl.size)
  clear hx hl HO HC
  by_cases hz : id = 0
  · obtain ⟨rfl, vs', ho⟩ := h0 hz
    have HO := Lib.hid ho
    have HZ := Lib.hid hz
    clear h0 h1 ho hz
    rw [show errV 9 = .iface 136 (.int .i64 9) from errV_ne (by decide)]
    go_wp2_with fail
    go_ret2
    exact ⟨fun _ => ⟨by rw [errV_ne (by decide)]; rfl, HX.out, vs', HO.out⟩, fun h => absurd HZ.out h, HL.out⟩
  · obtain ⟨rfl, vs', ho⟩ := h1 hz
    have HO := Lib.hid ho
    have HZ := Lib.hid hz
    clear h0 h1 ho hz
    rw [show errV 0 = .nilIface from rfl]
    have hb := bOne w1 (.cells #[.int .i64 id] 3)
    have HI := Lib.hid (inR_new w1 id)
    obtain ⟨w2, hw2⟩ : ∃ V, V = w1.alloc (.cells #[.int .i64 id] 3) := ⟨_, rfl⟩
    rw [← hw2] at hb HI
    replace HX := Lib.hid (HX.out.below hb)
    replace HO := Lib.hid (HO.out.below hb)
    replace HL := Lib.hid (HL.out.trans (hb.mono HBW.out))
    replace HBW := Lib.hid (Nat.le_trans HBW.out hb.size)
    have HWE := Lib.hid hw2
    have HEN := Lib.hid (show E.length ≤ 1048576 from HSM.out.1)
    clear hb hw2
    go_wp2_with fail
    rw [← HWE.out]
    clear HWE
    refine (keepBack_any w2 B _ kb 72 [] de qu wi ti qa bu le pb pc pj pt nw la ea ec ka kc tu fa fc ra rc tk ac dr vs' E KN F R _ 1 [id] (show Box w2 kb 72 ([.int .i64 de, .int .i64 qu, .int .i64 wi, .int .i64 ti, .int .i64 qa, .int .i64 bu, .int .i64 le, .int .i64 pb, .int .i64 pc, .int .i64 pj, .int .i64 pt, .int .i64 nw, .int .i64 la, .slice ea E.length ec, .slice ka KN.length kc, .int .i64 tu, .slice fa F.length fc, .slice ra R.length rc, .int .i64 tk, .int .i64 ac, .int .i64 dr] ++ []) by rw [List.append_nil, HKL.out]; exact HX.out) rfl (show GOwn B w2 (.slice ea E.length ec) (.slice ka KN.length kc) (.slice fa F.length fc) (.slice ra R.length rc) vs' E KN F R by rw [HKL.out]; exact HO.out) HBW.out HI.out HEN.out (by simp)).mono ?_
    rintro e w3 ⟨rfl, hx, ho, hl, hk⟩
    rw [List.append_nil, HKL.out] at hx
    rw [HKL.out] at ho
    replace HX := Lib.hid hx
    replace HO := Lib.hid ho
    replace HL := Lib.hid (HL.out.trans hl)
    clear hx ho hl hk HI
    have HE := Lib.hid (show errV 1 = .iface 136 (.int .i64 1) from errV_ne (by decide))
    go_wp2_with fail
    go_ret2
    exact ⟨fun h => absurd h HZ.out, fun _ => ⟨by rw [HE.out]; rfl, HX.out, vs', HO.out⟩, HL.out⟩

set_option maxRecDepth 100000 in
set_option maxHeartbeats 8000000 in
theorem hello_any (w : World) (B kb : Nat) (de qu wi ti qa bu le pb pc pj pt nw la : Int) (ea : Option Addr) (ec : Nat) (ka : Option Addr) (kc : Nat) (tu : Int) (fa : Option Addr) (fc : Nat) (ra : Option Addr) (rc : Nat) (tk ac dr : Int) (vs : List Value) (E : List Ev) (K : List Lk) (F R : List Int) (kd fd fe fs fi : Int) (fb : ByteArray) (hx : Box w kb 72 [.int .i64 de, .int .i64 qu, .int .i64 wi, .int .i64 ti, .int .i64 qa, .int .i64 bu, .int .i64 le, .int .i64 pb, .int .i64 pc, .int .i64 pj, .int .i64 pt, .int .i64 nw, .int .i64 la, .slice ea E.length ec, .slice ka K.length kc, .int .i64 tu, .slice fa F.length fc, .slice ra R.length rc, .int .i64 tk, .int .i64 ac, .int .i64 dr]) (hkb : B ≤ kb) (h : GOwn B w (.slice ea E.length ec) (.slice ka K.length kc) (.slice fa F.length fc) (.slice ra R.length rc) vs E K F R) (hB : B ≤ w.heap.size) (hs : Small E.length K.length F.length R.length K) (hkd : (K.length : Int) = de) (hde : de ≤ 1000) (hd1 : 1 ≤ fd) (hd2 : fd ≤ de) :
    Calls Tryz.prog 148 #[.pointer (some ⟨kb, 0, none⟩), .agg #[.int .i64 kd, .int .i64 fd, .int .i64 fe, .int .i64 fs, .int .i64 fi, .string fb]] w fun e w' => e = .returned (.tuple #[.int .i64 0, errV 2]) ∧ Box w' kb 72 [.int .i64 de, .int .i64 qu, .int .i64 wi, .int .i64 ti, .int .i64 qa, .int .i64 bu, .int .i64 le, .int .i64 pb, .int .i64 pc, .int .i64 pj, .int .i64 pt, .int .i64 nw, .int .i64 la, .slice ea E.length ec, .slice ka K.length kc, .int .i64 tu, .slice fa F.length fc, .slice ra R.length rc, .int .i64 tk, .int .i64 ac, .int .i64 dr] ∧ (∃ vs', GOwn B w' (.slice ea E.length ec) (.slice ka K.length kc) (.slice fa F.length fc) (.slice ra R.length rc) vs' (relE joinI (inB 1 de fd) K E fd) (conK joinK (inB 1 de fd) K fd) F R) ∧ Below B w w' := by
  have hmi : ∀ (v : Value) (w : World), (Instr.makeInterface 136 v).run Tryz.prog w = .ok (.iface 136 v) w := fun v w => by kernel_rfl
  obtain ⟨W0, hW0⟩ : ∃ W, W = w.alloc (.cells #[.int .i64 kd, .int .i64 fd, .int .i64 fe, .int .i64 fs, .int .i64 fi, .string fb] 51) := ⟨_, rfl⟩
  have hb := bOne w (.cells #[.int .i64 kd, .int .i64 fd, .int .i64 fe, .int .i64 fs, .int .i64 fi, .string fb] 51)
  have HC : Hid (Box W0 w.heap.size 51 [.int .i64 kd, .int .i64 fd, .int .i64 fe, .int .i64 fs, .int .i64 fi, .string fb]) := Lib.hid (by rw [hW0]; exact Box.new w [.int .i64 kd, .int .i64 fd, .int .i64 fe, .int .i64 fs, .int .i64 fi, .string fb] 51)
  rw [← hW0] at hb
  have HX := Lib.hid (hx.below hb)
  have HO := Lib.hid (h.below hb)
  have HL := Lib.hid (hb.mono hB)
  have HBW := Lib.hid (Nat.le_trans hB hb.size)
  have HWE := Lib.hid hW0
  have HSM := Lib.hid hs
  obtain ⟨kt, hkt⟩ : ∃ k, k = w.heap.size := ⟨_, rfl⟩
  rw [← hkt] at HC
  clear hx h hb hW0 hs
  go_enter Tryz.func148, Tryz.ntmps148
  go_upto_region 1 with fail
  rw [← HWE.out, ← hkt]
  clear HWE hkt

  have c1 := HC.out.cell 1 _ rfl
  go_wp2_with fail
  clear c1 HC
  refine (relink0_any 169 joinK joinI W0 B kb 72 [] de qu wi ti qa bu le pb pc pj pt nw la ea ec ka kc tu fa fc ra rc tk ac dr vs E K F R fd (by rw [List.append_nil]; exact HX.out) rfl HO.out HBW.out HSM.out hkd hde (enters_of Tryz.func169 (by kernel_rfl) rfl) joinI_len (fun w1 k fa0 fl fc0 hb hy hl => Lnk.join_any _ fa0 fl fc0 k.up k.ep k.sq k.l hy (by have := hy.hlen; omega))).mono ?_
  rintro e w3 ⟨rfl, hx, ⟨vs', ho⟩, hl, hk⟩
  rw [List.append_nil] at hx
  replace HX := Lib.hid hx
  replace HO := Lib.hid ho
  replace HL := Lib.hid (HL.out.trans hl)
  clear hx ho hl hk
  have HE := Lib.hid (show errV 2 = .iface 136 (.int .i64 2) from errV_ne (by decide))
  go_wp2_with fail
  go_ret2
  exact ⟨by rw [HE.out]; rfl, HX.out, ⟨vs', HO.out⟩, HL.out⟩

end Go.Proofs.YtkndpkingmemoaaGreatDoor.Gat
