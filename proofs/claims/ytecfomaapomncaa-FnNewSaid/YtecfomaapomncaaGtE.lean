/-
  Rows of messages and of links, and configs, compared with their like.
-/
import Derived.Test.YtecfomaapomncaaGtX
import Derived.Test.YtecfomaapomncaaGtC
namespace Go.Proofs.Ytecfomaapomncaa.Gat
open Go.RowKit
open Lnk (bOne bAfter IOwn IIs below_keep below_drew')
set_option linter.unusedVariables false

set_option maxRecDepth 100000 in
set_option maxHeartbeats 2000000 in
theorem eqEventS_yes (w : World) (B : Nat) (a1 a2 : Option Addr) (len c1 c2 : Nat) (l : List Ev) (h1 : EIs B w a1 len l) (h2 : EIs B w a2 len l) (hB : B ≤ w.heap.size) :
    Calls Try.prog 59 #[.slice a1 len c1, .slice a2 len c2] w fun e w' => e = .returned (.bool true) ∧ Below w.heap.size w w' := by
  have hl := h1.row.hlen
  have hle := h1.row.le
  unfold maxLen at hle
  have H1 := Lib.hid h1
  have H2 := Lib.hid h2
  have HL := Lib.hid hl
  clear h1 h2 hl
  go_enter Try.func59, Try.ntmps59
  go_wp2
  go_loopw [5] (fun i wr => ∃ j : Nat, j ≤ len ∧ i = .int .i64 j ∧ Below w.heap.size w wr) (fun i _ => len - (intOf i).toNat)
  case atStart => exact ⟨0, by omega, rfl, Below.refl _ _⟩
  case round =>
    obtain ⟨j, hj, rfl, hbel⟩ := hrel
    have hsz := hbel.size
    by_cases hlt : (j : Int) < (len : Int)
    · have hjl : j < l.length := by have := HL.out; omega
      obtain ⟨b1, o1, i, d, c, bd, at_, t, r, n, s, e1, hb1, hlj, hbd, c0, c1, c2, c3, c4, c5, c6, c7, c8⟩ := (H1.out.below (hbel.mono hB)).at j hjl
      obtain ⟨b2, o2, i', d', c', bd', at_', t', r', n', s', e2, hb2, hlj2, hbd2, d0, d1, d2, d3, d4, d5, d6, d7, d8⟩ := (H2.out.below (hbel.mono hB)).at j hjl
      rw [hlj] at hlj2
      simp only [Ev.mk.injEq] at hlj2
      obtain ⟨rfl, rfl, rfl, rfl, rfl, rfl, rfl, rfl, rfl⟩ := hlj2
      clear hlj hbd hbd2
      subst e1 e2
      have hs1 : b1 < wr.heap.size := by omega
      have hs2 : b2 < wr.heap.size := by omega
      go_wp2
      go_region_held3 (fun w' => w'.cell? ⟨b1, o1 + j * 9, none⟩ = some (.int .i64 i) ∧ w'.cell? ⟨b1, o1 + j * 9 + 1, none⟩ = some (.int .i64 d) ∧ w'.cell? ⟨b1, o1 + j * 9 + 2, none⟩ = some (.int .i64 c) ∧ w'.cell? ⟨b1, o1 + j * 9 + 3, none⟩ = some (.string bd) ∧ w'.cell? ⟨b1, o1 + j * 9 + 4, none⟩ = some (.int .i64 at_) ∧ w'.cell? ⟨b1, o1 + j * 9 + 5, none⟩ = some (.int .i64 t) ∧ w'.cell? ⟨b1, o1 + j * 9 + 6, none⟩ = some (.int .i64 r) ∧ w'.cell? ⟨b1, o1 + j * 9 + 7, none⟩ = some (.int .i64 n) ∧ w'.cell? ⟨b1, o1 + j * 9 + 8, none⟩ = some (.int .i64 s) ∧ w'.cell? ⟨b2, o2 + j * 9, none⟩ = some (.int .i64 i) ∧ w'.cell? ⟨b2, o2 + j * 9 + 1, none⟩ = some (.int .i64 d) ∧ w'.cell? ⟨b2, o2 + j * 9 + 2, none⟩ = some (.int .i64 c) ∧ w'.cell? ⟨b2, o2 + j * 9 + 3, none⟩ = some (.string bd) ∧ w'.cell? ⟨b2, o2 + j * 9 + 4, none⟩ = some (.int .i64 at_) ∧ w'.cell? ⟨b2, o2 + j * 9 + 5, none⟩ = some (.int .i64 t) ∧ w'.cell? ⟨b2, o2 + j * 9 + 6, none⟩ = some (.int .i64 r) ∧ w'.cell? ⟨b2, o2 + j * 9 + 7, none⟩ = some (.int .i64 n) ∧ w'.cell? ⟨b2, o2 + j * 9 + 8, none⟩ = some (.int .i64 s))
        (first | go_keep | (go_split_ands; exact ⟨below_keep hb3 (Nat.le_refl _) hs1 ‹_›, below_keep hb3 (Nat.le_refl _) hs1 ‹_›, below_keep hb3 (Nat.le_refl _) hs1 ‹_›, below_keep hb3 (Nat.le_refl _) hs1 ‹_›, below_keep hb3 (Nat.le_refl _) hs1 ‹_›, below_keep hb3 (Nat.le_refl _) hs1 ‹_›, below_keep hb3 (Nat.le_refl _) hs1 ‹_›, below_keep hb3 (Nat.le_refl _) hs1 ‹_›, below_keep hb3 (Nat.le_refl _) hs1 ‹_›, below_keep hb3 (Nat.le_refl _) hs2 ‹_›, below_keep hb3 (Nat.le_refl _) hs2 ‹_›, below_keep hb3 (Nat.le_refl _) hs2 ‹_›, below_keep hb3 (Nat.le_refl _) hs2 ‹_›, below_keep hb3 (Nat.le_refl _) hs2 ‹_›, below_keep hb3 (Nat.le_refl _) hs2 ‹_›, below_keep hb3 (Nat.le_refl _) hs2 ‹_›, below_keep hb3 (Nat.le_refl _) hs2 ‹_›, below_keep hb3 (Nat.le_refl _) hs2 ‹_›⟩))
        (first | (go_at_call 89; refine (Evt.eqEvent_same i d c bd at_ t r n s _).mono ?_; rintro e w3 ⟨rfl, hb3⟩))
      go_wp2
      go_roundw
      case rel => exact ⟨j + 1, by omega, by go_num, (below_drew' hbel).trans (hb3.mono (by simpa using hsz))⟩
      case measure => simp [intOf]; omega
    · go_wp2
      go_ret
      exact ⟨rfl, hbel⟩

set_option maxRecDepth 100000 in
set_option maxHeartbeats 2000000 in
theorem eqLinkS_yes (w : World) (B : Nat) (a1 a2 : Option Addr) (len c1 c2 : Nat) (l : List Lk) (h1 : LIs B w a1 len l) (h2 : LIs B w a2 len l) (hB : B ≤ w.heap.size) :
    Calls Try.prog 60 #[.slice a1 len c1, .slice a2 len c2] w fun e w' => e = .returned (.bool true) ∧ Below w.heap.size w w' := by
  have hl := h1.hlen
  have hle := h1.le
  unfold maxLen at hle
  have H1 := Lib.hid h1
  have H2 := Lib.hid h2
  have HL := Lib.hid hl
  clear h1 h2 hl
  go_enter Try.func60, Try.ntmps60
  go_wp2
  go_loopw [5] (fun i wr => ∃ j : Nat, j ≤ len ∧ i = .int .i64 j ∧ Below w.heap.size w wr) (fun i _ => len - (intOf i).toNat)
  case atStart => exact ⟨0, by omega, rfl, Below.refl _ _⟩
  case round =>
    obtain ⟨j, hj, rfl, hbel⟩ := hrel
    have hsz := hbel.size
    by_cases hlt : (j : Int) < (len : Int)
    · have hjl : j < l.length := by have := HL.out; omega
      obtain ⟨b1, o1, up, ep, sq, y, fa1, fl, fc1, e1, hb1, hlj, hy1, c0, c1, c2, c3⟩ := (H1.out.below (hbel.mono hB)).at j hjl
      obtain ⟨b2, o2, up', ep', sq', y', fa2, fl', fc2, e2, hb2, hlj2, hy2, d0, d1, d2, d3⟩ := (H2.out.below (hbel.mono hB)).at j hjl
      rw [hlj] at hlj2
      simp only [Lk.mk.injEq] at hlj2
      obtain ⟨rfl, rfl, rfl, rfl⟩ := hlj2
      obtain rfl : fl = fl' := by rw [← hy1.hlen, ← hy2.hlen]
      have HY1 := Lib.hid hy1
      have HY2 := Lib.hid hy2
      have HBM := Lib.hid (Nat.le_trans hB hsz)
      clear hlj hy1 hy2
      subst e1 e2
      have hs1 : b1 < wr.heap.size := by omega
      have hs2 : b2 < wr.heap.size := by omega
      go_wp2
      go_region_held3 (fun w' => (w'.cell? ⟨b1, o1 + j * 4, none⟩ = some (.bool up) ∧ w'.cell? ⟨b1, o1 + j * 4 + 1, none⟩ = some (.int .i64 ep) ∧ w'.cell? ⟨b1, o1 + j * 4 + 2, none⟩ = some (.int .i64 sq) ∧ w'.cell? ⟨b1, o1 + j * 4 + 3, none⟩ = some (.slice fa1 fl fc1) ∧ w'.cell? ⟨b2, o2 + j * 4, none⟩ = some (.bool up) ∧ w'.cell? ⟨b2, o2 + j * 4 + 1, none⟩ = some (.int .i64 ep) ∧ w'.cell? ⟨b2, o2 + j * 4 + 2, none⟩ = some (.int .i64 sq) ∧ w'.cell? ⟨b2, o2 + j * 4 + 3, none⟩ = some (.slice fa2 fl fc2)))
        (first | go_keep | (go_split_ands; exact ⟨below_keep hb3 (Nat.le_refl _) hs1 ‹_›, below_keep hb3 (Nat.le_refl _) hs1 ‹_›, below_keep hb3 (Nat.le_refl _) hs1 ‹_›, below_keep hb3 (Nat.le_refl _) hs1 ‹_›, below_keep hb3 (Nat.le_refl _) hs2 ‹_›, below_keep hb3 (Nat.le_refl _) hs2 ‹_›, below_keep hb3 (Nat.le_refl _) hs2 ‹_›, below_keep hb3 (Nat.le_refl _) hs2 ‹_›⟩))
        (first | (go_at_call 90; refine (Lnk.eqLink_yes _ B fa1 fa2 fl fc1 fc2 up ep sq y (HY1.out.below (by first | exact Below.refl _ _ | exact below_drew' (Below.refl _ _))) (HY2.out.below (by first | exact Below.refl _ _ | exact below_drew' (Below.refl _ _))) (by simpa using HBM.out)).mono ?_; rintro e w3 ⟨rfl, hb3⟩))
      go_wp2
      go_roundw
      case rel => exact ⟨j + 1, by omega, by go_num, (below_drew' hbel).trans (hb3.mono (by simpa using hsz))⟩
      case measure => simp [intOf]; omega
    · go_wp2
      go_ret
      exact ⟨rfl, hbel⟩

end Go.Proofs.Ytecfomaapomncaa.Gat
