/-
  The walk of the law FnExactStepOld, put together.
-/
import Derived.Test.YtlcllbdalabciaaGxOlm
import Derived.Test.YtlcllbdalabciaaGiPm
namespace Go.Proofs.Ytlcllbdalabciaa.Gat
open Go.RowKit
set_option linter.unusedVariables false

theorem exactStepOld_walk (w : World) (de qu wi ti qa bu le pb pc pj pt nw la : Int) (ea : Option Addr) (en ec : Nat) (ka : Option Addr) (kn kc : Nat) (tu : Int) (fa : Option Addr) (fn fc : Nat) (ra : Option Addr) (rn rc : Nat) (tk ac dr : Int) (E : List Ev) (K : List Lk) (F R : List Int)  (h : GIs w.heap.size w ea en ka kn fa fn ra rn E K F R) (hE : ∀ e ∈ E, (Lit.int .i64 e.i).wf = true) (hR : ∀ x ∈ R, (Lit.int .i64 x).wf = true) :
    Calls Try.prog 7 #[.agg #[.int .i64 de, .int .i64 qu, .int .i64 wi, .int .i64 ti, .int .i64 qa, .int .i64 bu, .int .i64 le, .int .i64 pb, .int .i64 pc, .int .i64 pj, .int .i64 pt, .int .i64 nw, .int .i64 la, .slice ea en ec, .slice ka kn kc, .int .i64 tu, .slice fa fn fc, .slice ra rn rc, .int .i64 tk, .int .i64 ac, .int .i64 dr]] w fun e w' => e = .returned (.bool true) ∧ Below w.heap.size w w' := by
  obtain rfl : E.length = en := h.ev.row.hlen
  obtain rfl : K.length = kn := h.lk.hlen
  obtain rfl : F.length = fn := h.lf.hlen
  obtain rfl : R.length = rn := h.lt.hlen
  exact exactStepOld_core w de qu wi ti qa bu le pb pc pj pt nw la ea E.length ec ka K.length kc tu fa F.length fc ra R.length rc tk ac dr E K F R  la tk ac dr (sel (gokB de qu wi ti qa bu le pb pc pj pt nw la E.length K.length tu F.length R.length tk ac dr E K F R) (E.map (oldE nw)) E) (sel (gokB de qu wi ti qa bu le pb pc pj pt nw la E.length K.length tu F.length R.length tk ac dr E K F R) (oldKs nw K E E.length) K) R h
    (fun w ea ec ka kc fa fc ra rc hG hS => implStOld_any w de qu wi ti qa bu le pb pc pj pt nw la ea E.length ec ka K.length kc tu fa F.length fc ra R.length rc tk ac dr E K F R hE hR hG hS)
    (fun w ea ec ka kc fa fc ra rc hG hS => specStepOld_any w de qu wi ti qa bu le pb pc pj pt nw la ea E.length ec ka K.length kc tu fa F.length fc ra R.length rc tk ac dr E K F R hG hS)
    (fun hS => small_old hS)
end Go.Proofs.Ytlcllbdalabciaa.Gat
