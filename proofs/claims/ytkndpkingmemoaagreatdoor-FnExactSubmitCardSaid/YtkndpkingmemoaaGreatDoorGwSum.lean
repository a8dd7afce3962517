/-
  The walk of the law FnExactSubmit, put together.
-/
import Derived.Test.YtkndpkingmemoaaGreatDoorGxSum
import Derived.Test.YtkndpkingmemoaaGreatDoorMgt
namespace Go.Proofs.YtkndpkingmemoaaGreatDoor.Gat
open Go.RowKit
set_option linter.unusedVariables false

theorem le_maxLen {n : Nat} (h : n ≤ 1048576) : n ≤ maxLen := Nat.le_trans h (by decide)
theorem small_sub {E : List Ev} {x : Ev} {K : List Lk} {F R : List Int} {ok : Bool} (h : Small E.length K.length F.length R.length K) (hok : ok = true → E.length ≤ 60) : Small (sel ok (E ++ [x]) E).length K.length F.length R.length K := by
  cases ok with
  | false => exact h
  | true =>
    refine ⟨?_, h.2⟩
    show (E ++ [x]).length ≤ _
    have := hok rfl
    simp
    omega

theorem exactSubmit_walk (w : World) (de qu wi ti qa bu le pb pc pj pt nw la : Int) (ea : Option Addr) (en ec : Nat) (ka : Option Addr) (kn kc : Nat) (tu : Int) (fa : Option Addr) (fn fc : Nat) (ra : Option Addr) (rn rc : Nat) (tk ac dr : Int) (E : List Ev) (K : List Lk) (F R : List Int) (d c : Int) (bd : ByteArray) (tt : Int) (h : GIs w.heap.size w ea en ka kn fa fn ra rn E K F R) (hE : ∀ e ∈ E, (Lit.int .i64 e.i).wf = true) (hR : ∀ x ∈ R, (Lit.int .i64 x).wf = true) (hg : ErrT w) :
    Calls Tryz.prog 6 #[.agg #[.int .i64 de, .int .i64 qu, .int .i64 wi, .int .i64 ti, .int .i64 qa, .int .i64 bu, .int .i64 le, .int .i64 pb, .int .i64 pc, .int .i64 pj, .int .i64 pt, .int .i64 nw, .int .i64 la, .slice ea en ec, .slice ka kn kc, .int .i64 tu, .slice fa fn fc, .slice ra rn rc, .int .i64 tk, .int .i64 ac, .int .i64 dr], .int .i64 d, .int .i64 c, .string bd, .int .i64 tt] w fun e w' => e = .returned (.bool true) ∧ Below w.heap.size w w' := by
  obtain rfl : E.length = en := h.ev.row.hlen
  obtain rfl : K.length = kn := h.lk.hlen
  obtain rfl : F.length = fn := h.lf.hlen
  obtain rfl : R.length = rn := h.lt.hlen
  exact exactSubmit_core w de qu wi ti qa bu le pb pc pj pt nw la ea E.length ec ka K.length kc tu fa F.length fc ra R.length rc tk ac dr E K F R d c bd tt (sel ((subC (gokB de qu wi ti qa bu le pb pc pj pt nw la E.length K.length tu F.length R.length tk ac dr E K F R) nw de d c bd.size pt tt qu E.length la E) == 0) (la + 1) la) (sel ((subC (gokB de qu wi ti qa bu le pb pc pj pt nw la E.length K.length tu F.length R.length tk ac dr E K F R) nw de d c bd.size pt tt qu E.length la E) == 0) (tk + 1) tk) ac dr (sel ((subC (gokB de qu wi ti qa bu le pb pc pj pt nw la E.length K.length tu F.length R.length tk ac dr E K F R) nw de d c bd.size pt tt qu E.length la E) == 0) (E ++ [⟨la + 1, d, c, bd, nw, tt, 0, nw, 0⟩]) E) K R (sel ((subC (gokB de qu wi ti qa bu le pb pc pj pt nw la E.length K.length tu F.length R.length tk ac dr E K F R) nw de d c bd.size pt tt qu E.length la E) == 0) (la + 1) 0) (subC (gokB de qu wi ti qa bu le pb pc pj pt nw la E.length K.length tu F.length R.length tk ac dr E K F R) nw de d c bd.size pt tt qu E.length la E) h
    (fun w ea ec ka kc fa fc ra rc hG hS hBL hEG => implSubmit_any w de qu wi ti qa bu le pb pc pj pt nw la ea E.length ec ka K.length kc tu fa F.length fc ra R.length rc tk ac dr E K F R d c bd tt hE hR hG hS (le_maxLen hBL) hEG)
    (fun w ea ec ka kc fa fc ra rc hG hS hBL => specSubmit_any w de qu wi ti qa bu le pb pc pj pt nw la ea E.length ec ka K.length kc tu fa F.length fc ra R.length rc tk ac dr E K F R d c bd tt hG hS (le_maxLen hBL))
    (fun hS => small_sub hS (fun h0 => (gokB_true (subC_ok (by simpa using h0))).2.2.2.2.1.1)) hg
end Go.Proofs.YtkndpkingmemoaaGreatDoor.Gat
