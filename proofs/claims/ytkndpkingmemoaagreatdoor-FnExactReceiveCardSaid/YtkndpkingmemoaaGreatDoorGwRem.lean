/-
  The walk of the law FnExactReceive, put together.
-/
import Derived.Test.YtkndpkingmemoaaGreatDoorGxRem
import Derived.Test.YtkndpkingmemoaaGreatDoorMgw
import Derived.Test.YtkndpkingmemoaaGreatDoorMgn
namespace Go.Proofs.YtkndpkingmemoaaGreatDoor.Gat
open Go.RowKit
set_option linter.unusedVariables false

theorem ansK_l (k : Lk) (e s : Int) : (ansK k e s).l.length ≤ k.l.length := by
  show (Lnk.ansL k.up k.ep k.sq k.l e s).length ≤ _
  unfold Lnk.ansL
  split
  · exact Lnk.stayL_len _ _
  · exact Nat.le_refl _
theorem rcvE_len (ok : Bool) (bs : ByteArray) (de : Int) (K : List Lk) (E : List Ev) : (rcvE ok bs de K E).length ≤ E.length := by
  unfold rcvE
  cases rcvS ok bs de with
  | true => exact Nat.le_refl _
  | false =>
    rw [sel_no]
    cases (Frm.gK bs == 3) with
    | true => rw [sel_yes, conE_len]; exact Nat.le_refl _
    | false =>
      rw [sel_no]
      cases (rcvA K bs == 0) with
      | true => exact Nat.le_refl _
      | false =>
        rw [sel_no]
        cases (Frm.gK bs == 4) with
        | true => rw [sel_yes, back1_len]; exact Nat.le_refl _
        | false => exact List.length_filter_le _ _
theorem rcvK_len (ok : Bool) (bs : ByteArray) (de : Int) (K : List Lk) : (rcvK ok bs de K).length = K.length := by
  unfold rcvK
  cases rcvS ok bs de with
  | true => rfl
  | false =>
    rw [sel_no]
    cases (Frm.gK bs == 3) with
    | true => rw [sel_yes, conK_len]
    | false =>
      rw [sel_no]
      cases (rcvA K bs == 0) with
      | true => rfl
      | false => rw [sel_no, List.length_set]
theorem rcvK_mem {N : Nat} {K : List Lk} (h : ∀ k ∈ K, k.l.length ≤ N) (ok : Bool) (bs : ByteArray) (de : Int) : ∀ k ∈ rcvK ok bs de K, k.l.length ≤ N := by
  have hd : ∀ n, (K.getD n lk0).l.length ≤ N := fun n => by
    rw [List.getD_eq_getElem?_getD]
    cases hq : K[n]? with
    | none => simp [lk0]
    | some q => exact h q (List.mem_of_getElem? hq)
  unfold rcvK
  cases rcvS ok bs de with
  | true => exact h
  | false =>
    rw [sel_no]
    cases (Frm.gK bs == 3) with
    | true =>
      rw [sel_yes]
      unfold conK
      split
      · intro k hk
        rcases List.mem_or_eq_of_mem_set hk with hk | rfl
        · exact h k hk
        · exact Nat.le_trans (joinK_l _) (hd _)
      · exact h
    | false =>
      rw [sel_no]
      cases (rcvA K bs == 0) with
      | true => exact h
      | false =>
        rw [sel_no]
        intro k hk
        rcases List.mem_or_eq_of_mem_set hk with hk | rfl
        · exact h k hk
        · exact Nat.le_trans (ansK_l _ _ _) (hd _)
theorem small_rcv {E : List Ev} {K : List Lk} {F R : List Int} {ok : Bool} {bs : ByteArray} {de : Int} (h : Small E.length K.length F.length R.length K) : Small (rcvE ok bs de K E).length (rcvK ok bs de K).length F.length R.length (rcvK ok bs de K) :=
  ⟨Nat.le_trans (rcvE_len _ _ _ _ _) h.1, by rw [rcvK_len]; exact h.2.1, rcvK_mem h.2.2.1 _ _ _, h.2.2.2⟩

theorem exactReceive_walk (w : World) (de qu wi ti qa bu le pb pc pj pt nw la : Int) (ea : Option Addr) (en ec : Nat) (ka : Option Addr) (kn kc : Nat) (tu : Int) (fa : Option Addr) (fn fc : Nat) (ra : Option Addr) (rn rc : Nat) (tk ac dr : Int) (E : List Ev) (K : List Lk) (F R : List Int) (bs : ByteArray) (h : GIs w.heap.size w ea en ka kn fa fn ra rn E K F R) (hE : ∀ e ∈ E, (Lit.int .i64 e.i).wf = true) (hR : ∀ x ∈ R, (Lit.int .i64 x).wf = true) (hg : ErrT w) :
    Calls Tryz.prog 7 #[.agg #[.int .i64 de, .int .i64 qu, .int .i64 wi, .int .i64 ti, .int .i64 qa, .int .i64 bu, .int .i64 le, .int .i64 pb, .int .i64 pc, .int .i64 pj, .int .i64 pt, .int .i64 nw, .int .i64 la, .slice ea en ec, .slice ka kn kc, .int .i64 tu, .slice fa fn fc, .slice ra rn rc, .int .i64 tk, .int .i64 ac, .int .i64 dr], .string bs] w fun e w' => e = .returned (.bool true) ∧ Below w.heap.size w w' := by
  obtain rfl : E.length = en := h.ev.row.hlen
  obtain rfl : K.length = kn := h.lk.hlen
  obtain rfl : F.length = fn := h.lf.hlen
  obtain rfl : R.length = rn := h.lt.hlen
  exact exactReceive_core w de qu wi ti qa bu le pb pc pj pt nw la ea E.length ec ka K.length kc tu fa F.length fc ra R.length rc tk ac dr E K F R bs la tk (rcvN (gokB de qu wi ti qa bu le pb pc pj pt nw la E.length K.length tu F.length R.length tk ac dr E K F R) bs de K ac) dr (rcvE (gokB de qu wi ti qa bu le pb pc pj pt nw la E.length K.length tu F.length R.length tk ac dr E K F R) bs de K E) (rcvK (gokB de qu wi ti qa bu le pb pc pj pt nw la E.length K.length tu F.length R.length tk ac dr E K F R) bs de K) R (rcvI (gokB de qu wi ti qa bu le pb pc pj pt nw la E.length K.length tu F.length R.length tk ac dr E K F R) bs de K) (rcvC (gokB de qu wi ti qa bu le pb pc pj pt nw la E.length K.length tu F.length R.length tk ac dr E K F R) bs de K) h
    (fun w ea ec ka kc fa fc ra rc hG hS hBL hEG => implReceive_any w de qu wi ti qa bu le pb pc pj pt nw la ea E.length ec ka K.length kc tu fa F.length fc ra R.length rc tk ac dr E K F R bs hE hR hG hS (by omega) hEG)
    (fun w ea ec ka kc fa fc ra rc hG hS hBL => specReceive_any w de qu wi ti qa bu le pb pc pj pt nw la ea E.length ec ka K.length kc tu fa F.length fc ra R.length rc tk ac dr E K F R bs hG hS (by omega))
    (fun hS => small_rcv hS) hg
end Go.Proofs.YtkndpkingmemoaaGreatDoor.Gat
