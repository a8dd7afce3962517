/-
  No cell of these rows narrows 'for every input' (looked for: loops, veiled, ifaces, maps, wideKeys, modest, calm, conditions, laid).
  DERIVED. THE GIVEN ROWS OF THIS SEAT. 6 by the template 'for every input the law returns true; each argument reads behind the call as it read before'; 0 by the template 'total and deterministic' (their statements: YtjcopkjapnieoaaTotals.lean).
  GIVEN WITH THE SEED: the statements are not yours to turn. If you find one false, say at which input.
  Laid BY PROGRAM, IN A SANDBOX (cutbox-rows.mjs): the forced cells as the released guide's own fill.sh prints them over the translation 6d54b0164b8dc9f5… (all of the seat's roots in one cut). By AI agents, Wed Nov 11 2026. No macro, syntax, notation, axiom, sorry.
-/
import Derived.Test.YtjcopkjapnieoaaChecked
import GoSem.Claim
import GoSem.ClaimJoined
import GoSem.ClaimMapViews
import Derived.JoinedTies
import Derived.KernelRfl
namespace Go.Proofs.Ytjcopkjapnieoaa
/- THE CELL 'sum', in the pinned program and in every row, IS THE sha256 OF THE DUMP (.gsa) THAT YtjcopkjapnieoaaProg.lean LOADS. Nothing in Lean hashes anything: it is a label: what it is worth is what the hold of that sum in a sandbox is worth. -/
noncomputable def Try.pinned : Pinned := { name := "ytjcopkjapnieoaa", sum := "6d54b0164b8dc9f587ca09655e9cc671e23de93d2b62b77653c28b05c118e3e7", checked := Try.checked }
namespace Rows
def none {H : Type} : Left H := { results := [], args := [] }

/-- 'laws.FnReady': WHATEVER THE INPUT: true; the input reads as it did. -/
def fnReadySpec : ChangeSpec := { name := "fnReady", fn := fun _ => fun
  | [d] => { results := [.lit (.bool true)], args := [d] }
  | _ => none }
def fnReadyRow : OpenClaim := { program := "ytjcopkjapnieoaa", sum := "6d54b0164b8dc9f587ca09655e9cc671e23de93d2b62b77653c28b05c118e3e7", func := "loop.example/g00814/laws.FnReady", spec := "fnReady", apart := false }
def FnReadySaid : Prop := fnReadyRow.holds Try.pinned (OpenSpec.ofChange fnReadySpec)

/-- ITS FALSE NEIGHBOUR: 'it returns false'. Refute it at one input. -/
def fnReadyWrong : ChangeSpec := { name := "fnReady", fn := fun _ => fun
  | [d] => { results := [.lit (.bool false)], args := [d] }
  | _ => none }
def FnReadyWrongFalsely : Prop := fnReadyRow.holds Try.pinned (OpenSpec.ofChange fnReadyWrong)

/-- 'laws.FnKnocked': WHATEVER THE INPUT: true; the input reads as it did. -/
def fnKnockedSpec : ChangeSpec := { name := "fnKnocked", fn := fun _ => fun
  | [d] => { results := [.lit (.bool true)], args := [d] }
  | _ => none }
def fnKnockedRow : OpenClaim := { program := "ytjcopkjapnieoaa", sum := "6d54b0164b8dc9f587ca09655e9cc671e23de93d2b62b77653c28b05c118e3e7", func := "loop.example/g00814/laws.FnKnocked", spec := "fnKnocked", apart := false }
def FnKnockedSaid : Prop := fnKnockedRow.holds Try.pinned (OpenSpec.ofChange fnKnockedSpec)

/-- ITS FALSE NEIGHBOUR: 'it returns false'. Refute it at one input. -/
def fnKnockedWrong : ChangeSpec := { name := "fnKnocked", fn := fun _ => fun
  | [d] => { results := [.lit (.bool false)], args := [d] }
  | _ => none }
def FnKnockedWrongFalsely : Prop := fnKnockedRow.holds Try.pinned (OpenSpec.ofChange fnKnockedWrong)

/-- 'laws.FnTimes': WHATEVER THE INPUT: true; the input reads as it did. -/
def fnTimesSpec : ChangeSpec := { name := "fnTimes", fn := fun _ => fun
  | [d] => { results := [.lit (.bool true)], args := [d] }
  | _ => none }
def fnTimesRow : OpenClaim := { program := "ytjcopkjapnieoaa", sum := "6d54b0164b8dc9f587ca09655e9cc671e23de93d2b62b77653c28b05c118e3e7", func := "loop.example/g00814/laws.FnTimes", spec := "fnTimes", apart := false }
def FnTimesSaid : Prop := fnTimesRow.holds Try.pinned (OpenSpec.ofChange fnTimesSpec)

/-- ITS FALSE NEIGHBOUR: 'it returns false'. Refute it at one input. -/
def fnTimesWrong : ChangeSpec := { name := "fnTimes", fn := fun _ => fun
  | [d] => { results := [.lit (.bool false)], args := [d] }
  | _ => none }
def FnTimesWrongFalsely : Prop := fnTimesRow.holds Try.pinned (OpenSpec.ofChange fnTimesWrong)

/-- 'laws.FnExactEventOk': WHATEVER THE INPUT: true; the input reads as it did. -/
def fnExactEventOkSpec : ChangeSpec := { name := "fnExactEventOk", fn := fun _ => fun
  | [d] => { results := [.lit (.bool true)], args := [d] }
  | _ => none }
def fnExactEventOkRow : OpenClaim := { program := "ytjcopkjapnieoaa", sum := "6d54b0164b8dc9f587ca09655e9cc671e23de93d2b62b77653c28b05c118e3e7", func := "loop.example/g00814/laws.FnExactEventOk", spec := "fnExactEventOk", apart := false }
def FnExactEventOkSaid : Prop := fnExactEventOkRow.holds Try.pinned (OpenSpec.ofChange fnExactEventOkSpec)

/-- ITS FALSE NEIGHBOUR: 'it returns false'. Refute it at one input. -/
def fnExactEventOkWrong : ChangeSpec := { name := "fnExactEventOk", fn := fun _ => fun
  | [d] => { results := [.lit (.bool false)], args := [d] }
  | _ => none }
def FnExactEventOkWrongFalsely : Prop := fnExactEventOkRow.holds Try.pinned (OpenSpec.ofChange fnExactEventOkWrong)

/-- 'laws.FnExactKnocked': WHATEVER THE INPUT: true; the input reads as it did. -/
def fnExactKnockedSpec : ChangeSpec := { name := "fnExactKnocked", fn := fun _ => fun
  | [d1, d2, d3] => { results := [.lit (.bool true)], args := [d1, d2, d3] }
  | _ => none }
def fnExactKnockedRow : OpenClaim := { program := "ytjcopkjapnieoaa", sum := "6d54b0164b8dc9f587ca09655e9cc671e23de93d2b62b77653c28b05c118e3e7", func := "loop.example/g00814/laws.FnExactKnocked", spec := "fnExactKnocked", apart := false }
def FnExactKnockedSaid : Prop := fnExactKnockedRow.holds Try.pinned (OpenSpec.ofChange fnExactKnockedSpec)

/-- ITS FALSE NEIGHBOUR: 'it returns false'. Refute it at one input. -/
def fnExactKnockedWrong : ChangeSpec := { name := "fnExactKnocked", fn := fun _ => fun
  | [d1, d2, d3] => { results := [.lit (.bool false)], args := [d1, d2, d3] }
  | _ => none }
def FnExactKnockedWrongFalsely : Prop := fnExactKnockedRow.holds Try.pinned (OpenSpec.ofChange fnExactKnockedWrong)

/-- 'laws.FnExactBack': WHATEVER THE INPUT: true; the input reads as it did. -/
def fnExactBackSpec : ChangeSpec := { name := "fnExactBack", fn := fun _ => fun
  | [d] => { results := [.lit (.bool true)], args := [d] }
  | _ => none }
def fnExactBackRow : OpenClaim := { program := "ytjcopkjapnieoaa", sum := "6d54b0164b8dc9f587ca09655e9cc671e23de93d2b62b77653c28b05c118e3e7", func := "loop.example/g00814/laws.FnExactBack", spec := "fnExactBack", apart := false }
def FnExactBackSaid : Prop := fnExactBackRow.holds Try.pinned (OpenSpec.ofChange fnExactBackSpec)

/-- ITS FALSE NEIGHBOUR: 'it returns false'. Refute it at one input. -/
def fnExactBackWrong : ChangeSpec := { name := "fnExactBack", fn := fun _ => fun
  | [d] => { results := [.lit (.bool false)], args := [d] }
  | _ => none }
def FnExactBackWrongFalsely : Prop := fnExactBackRow.holds Try.pinned (OpenSpec.ofChange fnExactBackWrong)

/- THE SECOND FORM. 'bulk': how many values and letters a reading holds, each counted each time it is reached (what is shared counts as often as it is met; a slice's spare places count too). A statement '..UptoSaid' is the law's where the arguments, and the package variables that the reading takes, are together of bulk at most 1048576: NARROWER than '..Said'. Prove '..Said' where nothing that the law and all that it calls make is longer than what came in: it says more and counts as full. Else prove '..UptoSaid'. A law counts once. -/
mutual
def uptoBulk {H : Type} : DataW H → Nat
  | .lit (.string bytes) => bytes.length + 1
  | .lit _ => 1
  | .nil => 1
  | .ptr d => uptoBulk d + 1
  | .slice elems spare => uptoBulkAll elems + uptoBulkAll spare + 1
  | .agg parts => uptoBulkAll parts + 1
  | .iface _ d => uptoBulk d + 1
  | .map entries => uptoBulkEntries entries + 1
  | .held _ => 1
def uptoBulkAll {H : Type} : List (DataW H) → Nat
  | [] => 0
  | d :: r => uptoBulk d + uptoBulkAll r
def uptoBulkEntries {H : Type} : List (Lit × DataW H) → Nat
  | [] => 0
  | x :: r => uptoBulkEntry x + uptoBulkEntries r
def uptoBulkEntry {H : Type} : Lit × DataW H → Nat
  | (.string bytes, d) => bytes.length + uptoBulk d + 1
  | (_, d) => uptoBulk d + 1
 end
def uptoSmall : (H : Type) → List (DataW H) → Bool := fun _ ds => decide (uptoBulkAll ds ≤ 1048576)
def OpenSpec.upto (s : _root_.Go.ChangeSpec) : _root_.Go.OpenSpec := { _root_.Go.OpenSpec.ofChange s with cond := some uptoSmall }

/-- 'laws.FnReady', WHERE WHAT IT READS IS OF BULK AT MOST 1048576: true; the input reads as it did. -/
def fnReadyUptoRow : OpenClaim := { program := "ytjcopkjapnieoaa", sum := "6d54b0164b8dc9f587ca09655e9cc671e23de93d2b62b77653c28b05c118e3e7", func := "loop.example/g00814/laws.FnReady", spec := "fnReady", apart := false, narrowed := true }
def FnReadyUptoSaid : Prop := fnReadyUptoRow.holds Try.pinned (OpenSpec.upto fnReadySpec)

/-- 'laws.FnKnocked', WHERE WHAT IT READS IS OF BULK AT MOST 1048576: true; the input reads as it did. -/
def fnKnockedUptoRow : OpenClaim := { program := "ytjcopkjapnieoaa", sum := "6d54b0164b8dc9f587ca09655e9cc671e23de93d2b62b77653c28b05c118e3e7", func := "loop.example/g00814/laws.FnKnocked", spec := "fnKnocked", apart := false, narrowed := true }
def FnKnockedUptoSaid : Prop := fnKnockedUptoRow.holds Try.pinned (OpenSpec.upto fnKnockedSpec)

/-- 'laws.FnTimes', WHERE WHAT IT READS IS OF BULK AT MOST 1048576: true; the input reads as it did. -/
def fnTimesUptoRow : OpenClaim := { program := "ytjcopkjapnieoaa", sum := "6d54b0164b8dc9f587ca09655e9cc671e23de93d2b62b77653c28b05c118e3e7", func := "loop.example/g00814/laws.FnTimes", spec := "fnTimes", apart := false, narrowed := true }
def FnTimesUptoSaid : Prop := fnTimesUptoRow.holds Try.pinned (OpenSpec.upto fnTimesSpec)

/-- 'laws.FnExactEventOk', WHERE WHAT IT READS IS OF BULK AT MOST 1048576: true; the input reads as it did. -/
def fnExactEventOkUptoRow : OpenClaim := { program := "ytjcopkjapnieoaa", sum := "6d54b0164b8dc9f587ca09655e9cc671e23de93d2b62b77653c28b05c118e3e7", func := "loop.example/g00814/laws.FnExactEventOk", spec := "fnExactEventOk", apart := false, narrowed := true }
def FnExactEventOkUptoSaid : Prop := fnExactEventOkUptoRow.holds Try.pinned (OpenSpec.upto fnExactEventOkSpec)

/-- 'laws.FnExactKnocked', WHERE WHAT IT READS IS OF BULK AT MOST 1048576: true; the input reads as it did. -/
def fnExactKnockedUptoRow : OpenClaim := { program := "ytjcopkjapnieoaa", sum := "6d54b0164b8dc9f587ca09655e9cc671e23de93d2b62b77653c28b05c118e3e7", func := "loop.example/g00814/laws.FnExactKnocked", spec := "fnExactKnocked", apart := false, narrowed := true }
def FnExactKnockedUptoSaid : Prop := fnExactKnockedUptoRow.holds Try.pinned (OpenSpec.upto fnExactKnockedSpec)

/-- 'laws.FnExactBack', WHERE WHAT IT READS IS OF BULK AT MOST 1048576: true; the input reads as it did. -/
def fnExactBackUptoRow : OpenClaim := { program := "ytjcopkjapnieoaa", sum := "6d54b0164b8dc9f587ca09655e9cc671e23de93d2b62b77653c28b05c118e3e7", func := "loop.example/g00814/laws.FnExactBack", spec := "fnExactBack", apart := false, narrowed := true }
def FnExactBackUptoSaid : Prop := fnExactBackUptoRow.holds Try.pinned (OpenSpec.upto fnExactBackSpec)

end Rows
end Go.Proofs.Ytjcopkjapnieoaa
