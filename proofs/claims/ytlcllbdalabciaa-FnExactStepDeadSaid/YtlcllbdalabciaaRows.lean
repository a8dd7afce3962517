/-
  No cell of these rows narrows 'for every input' (looked for: loops, veiled, ifaces, maps, wideKeys, modest, calm, conditions, laid).
  DERIVED. THE GIVEN ROWS OF THIS SEAT. 6 by the template 'for every input the law returns true; each argument reads behind the call as it read before'; 0 by the template 'total and deterministic' (their statements: YtlcllbdalabciaaTotals.lean).
  GIVEN WITH THE SEED: the statements are not yours to turn. If you find one false, say at which input.
  Laid BY PROGRAM, IN A SANDBOX (cutbox-rows.mjs): the forced cells as the released guide's own fill.sh prints them over the translation 4e6900dfadf88661… (all of the seat's roots in one cut). By AI agents, Wed Nov 11 2026. No macro, syntax, notation, axiom, sorry.
-/
import Derived.Test.YtlcllbdalabciaaChecked
import GoSem.Claim
import GoSem.ClaimJoined
import GoSem.ClaimMapViews
import Derived.JoinedTies
import Derived.KernelRfl
namespace Go.Proofs.Ytlcllbdalabciaa
/- THE CELL 'sum', in the pinned program and in every row, IS THE sha256 OF THE DUMP (.gsa) THAT YtlcllbdalabciaaProg.lean LOADS. Nothing in Lean hashes anything: it is a label: what it is worth is what the hold of that sum in a sandbox is worth. -/
noncomputable def Try.pinned : Pinned := { name := "ytlcllbdalabciaa", sum := "4e6900dfadf88661a423d44f25221137bb20916c8446b9daef85c3b1396525dc", checked := Try.checked }
namespace Rows
def none {H : Type} : Left H := { results := [], args := [] }

/-- 'laws.FnExactConnect': WHATEVER THE INPUT: true; the input reads as it did. -/
def fnExactConnectSpec : ChangeSpec := { name := "fnExactConnect", fn := fun _ => fun
  | [d1, d2] => { results := [.lit (.bool true)], args := [d1, d2] }
  | _ => none }
def fnExactConnectRow : OpenClaim := { program := "ytlcllbdalabciaa", sum := "4e6900dfadf88661a423d44f25221137bb20916c8446b9daef85c3b1396525dc", func := "loop.example/g00814/laws.FnExactConnect", spec := "fnExactConnect", unfollowed := true, recurses := true, apart := false }
def FnExactConnectSaid : Prop := fnExactConnectRow.holds Try.pinned (OpenSpec.ofChange fnExactConnectSpec)

/-- ITS FALSE NEIGHBOUR: 'it returns false'. Refute it at one input. -/
def fnExactConnectWrong : ChangeSpec := { name := "fnExactConnect", fn := fun _ => fun
  | [d1, d2] => { results := [.lit (.bool false)], args := [d1, d2] }
  | _ => none }
def FnExactConnectWrongFalsely : Prop := fnExactConnectRow.holds Try.pinned (OpenSpec.ofChange fnExactConnectWrong)

/-- 'laws.FnExactDisconnect': WHATEVER THE INPUT: true; the input reads as it did. -/
def fnExactDisconnectSpec : ChangeSpec := { name := "fnExactDisconnect", fn := fun _ => fun
  | [d1, d2] => { results := [.lit (.bool true)], args := [d1, d2] }
  | _ => none }
def fnExactDisconnectRow : OpenClaim := { program := "ytlcllbdalabciaa", sum := "4e6900dfadf88661a423d44f25221137bb20916c8446b9daef85c3b1396525dc", func := "loop.example/g00814/laws.FnExactDisconnect", spec := "fnExactDisconnect", unfollowed := true, recurses := true, apart := false }
def FnExactDisconnectSaid : Prop := fnExactDisconnectRow.holds Try.pinned (OpenSpec.ofChange fnExactDisconnectSpec)

/-- ITS FALSE NEIGHBOUR: 'it returns false'. Refute it at one input. -/
def fnExactDisconnectWrong : ChangeSpec := { name := "fnExactDisconnect", fn := fun _ => fun
  | [d1, d2] => { results := [.lit (.bool false)], args := [d1, d2] }
  | _ => none }
def FnExactDisconnectWrongFalsely : Prop := fnExactDisconnectRow.holds Try.pinned (OpenSpec.ofChange fnExactDisconnectWrong)

/-- 'laws.FnExactDrain': WHATEVER THE INPUT: true; the input reads as it did. -/
def fnExactDrainSpec : ChangeSpec := { name := "fnExactDrain", fn := fun _ => fun
  | [d] => { results := [.lit (.bool true)], args := [d] }
  | _ => none }
def fnExactDrainRow : OpenClaim := { program := "ytlcllbdalabciaa", sum := "4e6900dfadf88661a423d44f25221137bb20916c8446b9daef85c3b1396525dc", func := "loop.example/g00814/laws.FnExactDrain", spec := "fnExactDrain", unfollowed := true, recurses := true, apart := false }
def FnExactDrainSaid : Prop := fnExactDrainRow.holds Try.pinned (OpenSpec.ofChange fnExactDrainSpec)

/-- ITS FALSE NEIGHBOUR: 'it returns false'. Refute it at one input. -/
def fnExactDrainWrong : ChangeSpec := { name := "fnExactDrain", fn := fun _ => fun
  | [d] => { results := [.lit (.bool false)], args := [d] }
  | _ => none }
def FnExactDrainWrongFalsely : Prop := fnExactDrainRow.holds Try.pinned (OpenSpec.ofChange fnExactDrainWrong)

/-- 'laws.FnExactStepLate': WHATEVER THE INPUT: true; the input reads as it did. -/
def fnExactStepLateSpec : ChangeSpec := { name := "fnExactStepLate", fn := fun _ => fun
  | [d] => { results := [.lit (.bool true)], args := [d] }
  | _ => none }
def fnExactStepLateRow : OpenClaim := { program := "ytlcllbdalabciaa", sum := "4e6900dfadf88661a423d44f25221137bb20916c8446b9daef85c3b1396525dc", func := "loop.example/g00814/laws.FnExactStepLate", spec := "fnExactStepLate", unfollowed := true, recurses := true, apart := false }
def FnExactStepLateSaid : Prop := fnExactStepLateRow.holds Try.pinned (OpenSpec.ofChange fnExactStepLateSpec)

/-- ITS FALSE NEIGHBOUR: 'it returns false'. Refute it at one input. -/
def fnExactStepLateWrong : ChangeSpec := { name := "fnExactStepLate", fn := fun _ => fun
  | [d] => { results := [.lit (.bool false)], args := [d] }
  | _ => none }
def FnExactStepLateWrongFalsely : Prop := fnExactStepLateRow.holds Try.pinned (OpenSpec.ofChange fnExactStepLateWrong)

/-- 'laws.FnExactStepOld': WHATEVER THE INPUT: true; the input reads as it did. -/
def fnExactStepOldSpec : ChangeSpec := { name := "fnExactStepOld", fn := fun _ => fun
  | [d] => { results := [.lit (.bool true)], args := [d] }
  | _ => none }
def fnExactStepOldRow : OpenClaim := { program := "ytlcllbdalabciaa", sum := "4e6900dfadf88661a423d44f25221137bb20916c8446b9daef85c3b1396525dc", func := "loop.example/g00814/laws.FnExactStepOld", spec := "fnExactStepOld", unfollowed := true, recurses := true, apart := false }
def FnExactStepOldSaid : Prop := fnExactStepOldRow.holds Try.pinned (OpenSpec.ofChange fnExactStepOldSpec)

/-- ITS FALSE NEIGHBOUR: 'it returns false'. Refute it at one input. -/
def fnExactStepOldWrong : ChangeSpec := { name := "fnExactStepOld", fn := fun _ => fun
  | [d] => { results := [.lit (.bool false)], args := [d] }
  | _ => none }
def FnExactStepOldWrongFalsely : Prop := fnExactStepOldRow.holds Try.pinned (OpenSpec.ofChange fnExactStepOldWrong)

/-- 'laws.FnExactStepDead': WHATEVER THE INPUT: true; the input reads as it did. -/
def fnExactStepDeadSpec : ChangeSpec := { name := "fnExactStepDead", fn := fun _ => fun
  | [d] => { results := [.lit (.bool true)], args := [d] }
  | _ => none }
def fnExactStepDeadRow : OpenClaim := { program := "ytlcllbdalabciaa", sum := "4e6900dfadf88661a423d44f25221137bb20916c8446b9daef85c3b1396525dc", func := "loop.example/g00814/laws.FnExactStepDead", spec := "fnExactStepDead", unfollowed := true, recurses := true, apart := false }
def FnExactStepDeadSaid : Prop := fnExactStepDeadRow.holds Try.pinned (OpenSpec.ofChange fnExactStepDeadSpec)

/-- ITS FALSE NEIGHBOUR: 'it returns false'. Refute it at one input. -/
def fnExactStepDeadWrong : ChangeSpec := { name := "fnExactStepDead", fn := fun _ => fun
  | [d] => { results := [.lit (.bool false)], args := [d] }
  | _ => none }
def FnExactStepDeadWrongFalsely : Prop := fnExactStepDeadRow.holds Try.pinned (OpenSpec.ofChange fnExactStepDeadWrong)

/- THE SECOND FORM. 'bulk': how many values and letters a reading holds, each counted each time it is reached (what is shared counts as often as it is met; a slice's spare places count too). A statement '..UptoSaid' is the law's where the arguments, and the package variables that the reading takes, are together of bulk at most 1048576: NARROWER than '..Said'. Prove '..Said' where nothing that the law and all that it calls make is longer than what came in: it says more and counts as full. Else prove '..UptoSaid'. A law counts once. -/
mutual
def uptoBulk {H : Type} : DataW H → Nat
  | .lit (.string bytes) => bytes.length + 1
  | .lit _ => 1
  | .nil => 1
  | .ptr d => uptoBulk d + 1
  | .slice elems spare => uptoBulkAll elems + uptoBulkAll spare + 1
  | .agg parts => uptoBulkAll parts + 1
  | .iface _ d => uptoBulk d + 1
  | .map entries => uptoBulkEntries entries + 1
  | .held _ => 1
def uptoBulkAll {H : Type} : List (DataW H) → Nat
  | [] => 0
  | d :: r => uptoBulk d + uptoBulkAll r
def uptoBulkEntries {H : Type} : List (Lit × DataW H) → Nat
  | [] => 0
  | x :: r => uptoBulkEntry x + uptoBulkEntries r
def uptoBulkEntry {H : Type} : Lit × DataW H → Nat
  | (.string bytes, d) => bytes.length + uptoBulk d + 1
  | (_, d) => uptoBulk d + 1
 end
def uptoSmall : (H : Type) → List (DataW H) → Bool := fun _ ds => decide (uptoBulkAll ds ≤ 1048576)
def OpenSpec.upto (s : _root_.Go.ChangeSpec) : _root_.Go.OpenSpec := { _root_.Go.OpenSpec.ofChange s with cond := some uptoSmall }

/-- 'laws.FnExactConnect', WHERE WHAT IT READS IS OF BULK AT MOST 1048576: true; the input reads as it did. -/
def fnExactConnectUptoRow : OpenClaim := { program := "ytlcllbdalabciaa", sum := "4e6900dfadf88661a423d44f25221137bb20916c8446b9daef85c3b1396525dc", func := "loop.example/g00814/laws.FnExactConnect", spec := "fnExactConnect", unfollowed := true, recurses := true, apart := false, narrowed := true }
def FnExactConnectUptoSaid : Prop := fnExactConnectUptoRow.holds Try.pinned (OpenSpec.upto fnExactConnectSpec)

/-- 'laws.FnExactDisconnect', WHERE WHAT IT READS IS OF BULK AT MOST 1048576: true; the input reads as it did. -/
def fnExactDisconnectUptoRow : OpenClaim := { program := "ytlcllbdalabciaa", sum := "4e6900dfadf88661a423d44f25221137bb20916c8446b9daef85c3b1396525dc", func := "loop.example/g00814/laws.FnExactDisconnect", spec := "fnExactDisconnect", unfollowed := true, recurses := true, apart := false, narrowed := true }
def FnExactDisconnectUptoSaid : Prop := fnExactDisconnectUptoRow.holds Try.pinned (OpenSpec.upto fnExactDisconnectSpec)

/-- 'laws.FnExactDrain', WHERE WHAT IT READS IS OF BULK AT MOST 1048576: true; the input reads as it did. -/
def fnExactDrainUptoRow : OpenClaim := { program := "ytlcllbdalabciaa", sum := "4e6900dfadf88661a423d44f25221137bb20916c8446b9daef85c3b1396525dc", func := "loop.example/g00814/laws.FnExactDrain", spec := "fnExactDrain", unfollowed := true, recurses := true, apart := false, narrowed := true }
def FnExactDrainUptoSaid : Prop := fnExactDrainUptoRow.holds Try.pinned (OpenSpec.upto fnExactDrainSpec)

/-- 'laws.FnExactStepLate', WHERE WHAT IT READS IS OF BULK AT MOST 1048576: true; the input reads as it did. -/
def fnExactStepLateUptoRow : OpenClaim := { program := "ytlcllbdalabciaa", sum := "4e6900dfadf88661a423d44f25221137bb20916c8446b9daef85c3b1396525dc", func := "loop.example/g00814/laws.FnExactStepLate", spec := "fnExactStepLate", unfollowed := true, recurses := true, apart := false, narrowed := true }
def FnExactStepLateUptoSaid : Prop := fnExactStepLateUptoRow.holds Try.pinned (OpenSpec.upto fnExactStepLateSpec)

/-- 'laws.FnExactStepOld', WHERE WHAT IT READS IS OF BULK AT MOST 1048576: true; the input reads as it did. -/
def fnExactStepOldUptoRow : OpenClaim := { program := "ytlcllbdalabciaa", sum := "4e6900dfadf88661a423d44f25221137bb20916c8446b9daef85c3b1396525dc", func := "loop.example/g00814/laws.FnExactStepOld", spec := "fnExactStepOld", unfollowed := true, recurses := true, apart := false, narrowed := true }
def FnExactStepOldUptoSaid : Prop := fnExactStepOldUptoRow.holds Try.pinned (OpenSpec.upto fnExactStepOldSpec)

/-- 'laws.FnExactStepDead', WHERE WHAT IT READS IS OF BULK AT MOST 1048576: true; the input reads as it did. -/
def fnExactStepDeadUptoRow : OpenClaim := { program := "ytlcllbdalabciaa", sum := "4e6900dfadf88661a423d44f25221137bb20916c8446b9daef85c3b1396525dc", func := "loop.example/g00814/laws.FnExactStepDead", spec := "fnExactStepDead", unfollowed := true, recurses := true, apart := false, narrowed := true }
def FnExactStepDeadUptoSaid : Prop := fnExactStepDeadUptoRow.holds Try.pinned (OpenSpec.upto fnExactStepDeadSpec)

end Rows
end Go.Proofs.Ytlcllbdalabciaa
