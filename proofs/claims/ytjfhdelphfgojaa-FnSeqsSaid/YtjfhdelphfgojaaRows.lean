/-
  No cell of these rows narrows 'for every input' (looked for: loops, veiled, ifaces, maps, wideKeys, modest, calm, conditions, laid).
  DERIVED. THE GIVEN ROWS OF THIS SEAT. 13 by the template 'for every input the law returns true; each argument reads behind the call as it read before'; 0 by the template 'total and deterministic' (their statements: YtjfhdelphfgojaaTotals.lean).
  GIVEN WITH THE SEED: the statements are not yours to turn. If you find one false, say at which input.
  Laid BY PROGRAM, IN A SANDBOX (cutbox-rows.mjs): the forced cells as the released guide's own fill.sh prints them over the translation 8f848c7c34ba4f01… (all of the seat's roots in one cut). By AI agents, Wed Nov 11 2026. No macro, syntax, notation, axiom, sorry.
-/
import Derived.Test.YtjfhdelphfgojaaChecked
import GoSem.Claim
import GoSem.ClaimJoined
import GoSem.ClaimMapViews
import Derived.JoinedTies
import Derived.KernelRfl
namespace Go.Proofs.Ytjfhdelphfgojaa
/- THE CELL 'sum', in the pinned program and in every row, IS THE sha256 OF THE DUMP (.gsa) THAT YtjfhdelphfgojaaProg.lean LOADS. Nothing in Lean hashes anything: it is a label: what it is worth is what the hold of that sum in a sandbox is worth. -/
noncomputable def Try.pinned : Pinned := { name := "ytjfhdelphfgojaa", sum := "8f848c7c34ba4f017892f53ba902cbc9941069a9ef0c750fc8b1b9daa6f6e9f1", checked := Try.checked }
namespace Rows
def none {H : Type} : Left H := { results := [], args := [] }

/-- 'laws.FnLaunch': WHATEVER THE INPUT: true; the input reads as it did. -/
def fnLaunchSpec : ChangeSpec := { name := "fnLaunch", fn := fun _ => fun
  | [d] => { results := [.lit (.bool true)], args := [d] }
  | _ => none }
def fnLaunchRow : OpenClaim := { program := "ytjfhdelphfgojaa", sum := "8f848c7c34ba4f017892f53ba902cbc9941069a9ef0c750fc8b1b9daa6f6e9f1", func := "loop.example/g00814/laws.FnLaunch", spec := "fnLaunch", unfollowed := true, recurses := true, apart := false }
def FnLaunchSaid : Prop := fnLaunchRow.holds Try.pinned (OpenSpec.ofChange fnLaunchSpec)

/-- ITS FALSE NEIGHBOUR: 'it returns false'. Refute it at one input. -/
def fnLaunchWrong : ChangeSpec := { name := "fnLaunch", fn := fun _ => fun
  | [d] => { results := [.lit (.bool false)], args := [d] }
  | _ => none }
def FnLaunchWrongFalsely : Prop := fnLaunchRow.holds Try.pinned (OpenSpec.ofChange fnLaunchWrong)

/-- 'laws.FnAnswer': WHATEVER THE INPUT: true; the input reads as it did. -/
def fnAnswerSpec : ChangeSpec := { name := "fnAnswer", fn := fun _ => fun
  | [d] => { results := [.lit (.bool true)], args := [d] }
  | _ => none }
def fnAnswerRow : OpenClaim := { program := "ytjfhdelphfgojaa", sum := "8f848c7c34ba4f017892f53ba902cbc9941069a9ef0c750fc8b1b9daa6f6e9f1", func := "loop.example/g00814/laws.FnAnswer", spec := "fnAnswer", unfollowed := true, recurses := true, apart := false }
def FnAnswerSaid : Prop := fnAnswerRow.holds Try.pinned (OpenSpec.ofChange fnAnswerSpec)

/-- ITS FALSE NEIGHBOUR: 'it returns false'. Refute it at one input. -/
def fnAnswerWrong : ChangeSpec := { name := "fnAnswer", fn := fun _ => fun
  | [d] => { results := [.lit (.bool false)], args := [d] }
  | _ => none }
def FnAnswerWrongFalsely : Prop := fnAnswerRow.holds Try.pinned (OpenSpec.ofChange fnAnswerWrong)

/-- 'laws.FnLate': WHATEVER THE INPUT: true; the input reads as it did. -/
def fnLateSpec : ChangeSpec := { name := "fnLate", fn := fun _ => fun
  | [d] => { results := [.lit (.bool true)], args := [d] }
  | _ => none }
def fnLateRow : OpenClaim := { program := "ytjfhdelphfgojaa", sum := "8f848c7c34ba4f017892f53ba902cbc9941069a9ef0c750fc8b1b9daa6f6e9f1", func := "loop.example/g00814/laws.FnLate", spec := "fnLate", unfollowed := true, recurses := true, apart := false }
def FnLateSaid : Prop := fnLateRow.holds Try.pinned (OpenSpec.ofChange fnLateSpec)

/-- ITS FALSE NEIGHBOUR: 'it returns false'. Refute it at one input. -/
def fnLateWrong : ChangeSpec := { name := "fnLate", fn := fun _ => fun
  | [d] => { results := [.lit (.bool false)], args := [d] }
  | _ => none }
def FnLateWrongFalsely : Prop := fnLateRow.holds Try.pinned (OpenSpec.ofChange fnLateWrong)

/-- 'laws.FnJoin': WHATEVER THE INPUT: true; the input reads as it did. -/
def fnJoinSpec : ChangeSpec := { name := "fnJoin", fn := fun _ => fun
  | [d] => { results := [.lit (.bool true)], args := [d] }
  | _ => none }
def fnJoinRow : OpenClaim := { program := "ytjfhdelphfgojaa", sum := "8f848c7c34ba4f017892f53ba902cbc9941069a9ef0c750fc8b1b9daa6f6e9f1", func := "loop.example/g00814/laws.FnJoin", spec := "fnJoin", unfollowed := true, recurses := true, apart := false }
def FnJoinSaid : Prop := fnJoinRow.holds Try.pinned (OpenSpec.ofChange fnJoinSpec)

/-- ITS FALSE NEIGHBOUR: 'it returns false'. Refute it at one input. -/
def fnJoinWrong : ChangeSpec := { name := "fnJoin", fn := fun _ => fun
  | [d] => { results := [.lit (.bool false)], args := [d] }
  | _ => none }
def FnJoinWrongFalsely : Prop := fnJoinRow.holds Try.pinned (OpenSpec.ofChange fnJoinWrong)

/-- 'laws.FnSeqs': WHATEVER THE INPUT: true; the input reads as it did. -/
def fnSeqsSpec : ChangeSpec := { name := "fnSeqs", fn := fun _ => fun
  | [d] => { results := [.lit (.bool true)], args := [d] }
  | _ => none }
def fnSeqsRow : OpenClaim := { program := "ytjfhdelphfgojaa", sum := "8f848c7c34ba4f017892f53ba902cbc9941069a9ef0c750fc8b1b9daa6f6e9f1", func := "loop.example/g00814/laws.FnSeqs", spec := "fnSeqs", unfollowed := true, recurses := true, apart := false }
def FnSeqsSaid : Prop := fnSeqsRow.holds Try.pinned (OpenSpec.ofChange fnSeqsSpec)

/-- ITS FALSE NEIGHBOUR: 'it returns false'. Refute it at one input. -/
def fnSeqsWrong : ChangeSpec := { name := "fnSeqs", fn := fun _ => fun
  | [d] => { results := [.lit (.bool false)], args := [d] }
  | _ => none }
def FnSeqsWrongFalsely : Prop := fnSeqsRow.holds Try.pinned (OpenSpec.ofChange fnSeqsWrong)

/-- 'laws.FnTwoAnswers': WHATEVER THE INPUT: true; the input reads as it did. -/
def fnTwoAnswersSpec : ChangeSpec := { name := "fnTwoAnswers", fn := fun _ => fun
  | [d] => { results := [.lit (.bool true)], args := [d] }
  | _ => none }
def fnTwoAnswersRow : OpenClaim := { program := "ytjfhdelphfgojaa", sum := "8f848c7c34ba4f017892f53ba902cbc9941069a9ef0c750fc8b1b9daa6f6e9f1", func := "loop.example/g00814/laws.FnTwoAnswers", spec := "fnTwoAnswers", unfollowed := true, recurses := true, apart := false }
def FnTwoAnswersSaid : Prop := fnTwoAnswersRow.holds Try.pinned (OpenSpec.ofChange fnTwoAnswersSpec)

/-- ITS FALSE NEIGHBOUR: 'it returns false'. Refute it at one input. -/
def fnTwoAnswersWrong : ChangeSpec := { name := "fnTwoAnswers", fn := fun _ => fun
  | [d] => { results := [.lit (.bool false)], args := [d] }
  | _ => none }
def FnTwoAnswersWrongFalsely : Prop := fnTwoAnswersRow.holds Try.pinned (OpenSpec.ofChange fnTwoAnswersWrong)

/-- 'laws.FnExactLinkOk': WHATEVER THE INPUT: true; the input reads as it did. -/
def fnExactLinkOkSpec : ChangeSpec := { name := "fnExactLinkOk", fn := fun _ => fun
  | [d] => { results := [.lit (.bool true)], args := [d] }
  | _ => none }
def fnExactLinkOkRow : OpenClaim := { program := "ytjfhdelphfgojaa", sum := "8f848c7c34ba4f017892f53ba902cbc9941069a9ef0c750fc8b1b9daa6f6e9f1", func := "loop.example/g00814/laws.FnExactLinkOk", spec := "fnExactLinkOk", apart := false }
def FnExactLinkOkSaid : Prop := fnExactLinkOkRow.holds Try.pinned (OpenSpec.ofChange fnExactLinkOkSpec)

/-- ITS FALSE NEIGHBOUR: 'it returns false'. Refute it at one input. -/
def fnExactLinkOkWrong : ChangeSpec := { name := "fnExactLinkOk", fn := fun _ => fun
  | [d] => { results := [.lit (.bool false)], args := [d] }
  | _ => none }
def FnExactLinkOkWrongFalsely : Prop := fnExactLinkOkRow.holds Try.pinned (OpenSpec.ofChange fnExactLinkOkWrong)

/-- 'laws.FnExactLaunch': WHATEVER THE INPUT: true; the input reads as it did. -/
def fnExactLaunchSpec : ChangeSpec := { name := "fnExactLaunch", fn := fun _ => fun
  | [d1, d2, d3] => { results := [.lit (.bool true)], args := [d1, d2, d3] }
  | _ => none }
def fnExactLaunchRow : OpenClaim := { program := "ytjfhdelphfgojaa", sum := "8f848c7c34ba4f017892f53ba902cbc9941069a9ef0c750fc8b1b9daa6f6e9f1", func := "loop.example/g00814/laws.FnExactLaunch", spec := "fnExactLaunch", apart := false }
def FnExactLaunchSaid : Prop := fnExactLaunchRow.holds Try.pinned (OpenSpec.ofChange fnExactLaunchSpec)

/-- ITS FALSE NEIGHBOUR: 'it returns false'. Refute it at one input. -/
def fnExactLaunchWrong : ChangeSpec := { name := "fnExactLaunch", fn := fun _ => fun
  | [d1, d2, d3] => { results := [.lit (.bool false)], args := [d1, d2, d3] }
  | _ => none }
def FnExactLaunchWrongFalsely : Prop := fnExactLaunchRow.holds Try.pinned (OpenSpec.ofChange fnExactLaunchWrong)

/-- 'laws.FnExactAnswer': WHATEVER THE INPUT: true; the input reads as it did. -/
def fnExactAnswerSpec : ChangeSpec := { name := "fnExactAnswer", fn := fun _ => fun
  | [d1, d2, d3] => { results := [.lit (.bool true)], args := [d1, d2, d3] }
  | _ => none }
def fnExactAnswerRow : OpenClaim := { program := "ytjfhdelphfgojaa", sum := "8f848c7c34ba4f017892f53ba902cbc9941069a9ef0c750fc8b1b9daa6f6e9f1", func := "loop.example/g00814/laws.FnExactAnswer", spec := "fnExactAnswer", unfollowed := true, recurses := true, apart := false }
def FnExactAnswerSaid : Prop := fnExactAnswerRow.holds Try.pinned (OpenSpec.ofChange fnExactAnswerSpec)

/-- ITS FALSE NEIGHBOUR: 'it returns false'. Refute it at one input. -/
def fnExactAnswerWrong : ChangeSpec := { name := "fnExactAnswer", fn := fun _ => fun
  | [d1, d2, d3] => { results := [.lit (.bool false)], args := [d1, d2, d3] }
  | _ => none }
def FnExactAnswerWrongFalsely : Prop := fnExactAnswerRow.holds Try.pinned (OpenSpec.ofChange fnExactAnswerWrong)

/-- 'laws.FnExactForget': WHATEVER THE INPUT: true; the input reads as it did. -/
def fnExactForgetSpec : ChangeSpec := { name := "fnExactForget", fn := fun _ => fun
  | [d1, d2] => { results := [.lit (.bool true)], args := [d1, d2] }
  | _ => none }
def fnExactForgetRow : OpenClaim := { program := "ytjfhdelphfgojaa", sum := "8f848c7c34ba4f017892f53ba902cbc9941069a9ef0c750fc8b1b9daa6f6e9f1", func := "loop.example/g00814/laws.FnExactForget", spec := "fnExactForget", unfollowed := true, recurses := true, apart := false }
def FnExactForgetSaid : Prop := fnExactForgetRow.holds Try.pinned (OpenSpec.ofChange fnExactForgetSpec)

/-- ITS FALSE NEIGHBOUR: 'it returns false'. Refute it at one input. -/
def fnExactForgetWrong : ChangeSpec := { name := "fnExactForget", fn := fun _ => fun
  | [d1, d2] => { results := [.lit (.bool false)], args := [d1, d2] }
  | _ => none }
def FnExactForgetWrongFalsely : Prop := fnExactForgetRow.holds Try.pinned (OpenSpec.ofChange fnExactForgetWrong)

/-- 'laws.FnExactLate': WHATEVER THE INPUT: true; the input reads as it did. -/
def fnExactLateSpec : ChangeSpec := { name := "fnExactLate", fn := fun _ => fun
  | [d1, d2] => { results := [.lit (.bool true)], args := [d1, d2] }
  | _ => none }
def fnExactLateRow : OpenClaim := { program := "ytjfhdelphfgojaa", sum := "8f848c7c34ba4f017892f53ba902cbc9941069a9ef0c750fc8b1b9daa6f6e9f1", func := "loop.example/g00814/laws.FnExactLate", spec := "fnExactLate", unfollowed := true, recurses := true, apart := false }
def FnExactLateSaid : Prop := fnExactLateRow.holds Try.pinned (OpenSpec.ofChange fnExactLateSpec)

/-- ITS FALSE NEIGHBOUR: 'it returns false'. Refute it at one input. -/
def fnExactLateWrong : ChangeSpec := { name := "fnExactLate", fn := fun _ => fun
  | [d1, d2] => { results := [.lit (.bool false)], args := [d1, d2] }
  | _ => none }
def FnExactLateWrongFalsely : Prop := fnExactLateRow.holds Try.pinned (OpenSpec.ofChange fnExactLateWrong)

/-- 'laws.FnExactJoin': WHATEVER THE INPUT: true; the input reads as it did. -/
def fnExactJoinSpec : ChangeSpec := { name := "fnExactJoin", fn := fun _ => fun
  | [d] => { results := [.lit (.bool true)], args := [d] }
  | _ => none }
def fnExactJoinRow : OpenClaim := { program := "ytjfhdelphfgojaa", sum := "8f848c7c34ba4f017892f53ba902cbc9941069a9ef0c750fc8b1b9daa6f6e9f1", func := "loop.example/g00814/laws.FnExactJoin", spec := "fnExactJoin", apart := false }
def FnExactJoinSaid : Prop := fnExactJoinRow.holds Try.pinned (OpenSpec.ofChange fnExactJoinSpec)

/-- ITS FALSE NEIGHBOUR: 'it returns false'. Refute it at one input. -/
def fnExactJoinWrong : ChangeSpec := { name := "fnExactJoin", fn := fun _ => fun
  | [d] => { results := [.lit (.bool false)], args := [d] }
  | _ => none }
def FnExactJoinWrongFalsely : Prop := fnExactJoinRow.holds Try.pinned (OpenSpec.ofChange fnExactJoinWrong)

/-- 'laws.FnExactLeave': WHATEVER THE INPUT: true; the input reads as it did. -/
def fnExactLeaveSpec : ChangeSpec := { name := "fnExactLeave", fn := fun _ => fun
  | [d] => { results := [.lit (.bool true)], args := [d] }
  | _ => none }
def fnExactLeaveRow : OpenClaim := { program := "ytjfhdelphfgojaa", sum := "8f848c7c34ba4f017892f53ba902cbc9941069a9ef0c750fc8b1b9daa6f6e9f1", func := "loop.example/g00814/laws.FnExactLeave", spec := "fnExactLeave", apart := false }
def FnExactLeaveSaid : Prop := fnExactLeaveRow.holds Try.pinned (OpenSpec.ofChange fnExactLeaveSpec)

/-- ITS FALSE NEIGHBOUR: 'it returns false'. Refute it at one input. -/
def fnExactLeaveWrong : ChangeSpec := { name := "fnExactLeave", fn := fun _ => fun
  | [d] => { results := [.lit (.bool false)], args := [d] }
  | _ => none }
def FnExactLeaveWrongFalsely : Prop := fnExactLeaveRow.holds Try.pinned (OpenSpec.ofChange fnExactLeaveWrong)

/- THE SECOND FORM. 'bulk': how many values and letters a reading holds, each counted each time it is reached (what is shared counts as often as it is met; a slice's spare places count too). A statement '..UptoSaid' is the law's where the arguments, and the package variables that the reading takes, are together of bulk at most 1048576: NARROWER than '..Said'. Prove '..Said' where nothing that the law and all that it calls make is longer than what came in: it says more and counts as full. Else prove '..UptoSaid'. A law counts once. -/
mutual
def uptoBulk {H : Type} : DataW H → Nat
  | .lit (.string bytes) => bytes.length + 1
  | .lit _ => 1
  | .nil => 1
  | .ptr d => uptoBulk d + 1
  | .slice elems spare => uptoBulkAll elems + uptoBulkAll spare + 1
  | .agg parts => uptoBulkAll parts + 1
  | .iface _ d => uptoBulk d + 1
  | .map entries => uptoBulkEntries entries + 1
  | .held _ => 1
def uptoBulkAll {H : Type} : List (DataW H) → Nat
  | [] => 0
  | d :: r => uptoBulk d + uptoBulkAll r
def uptoBulkEntries {H : Type} : List (Lit × DataW H) → Nat
  | [] => 0
  | x :: r => uptoBulkEntry x + uptoBulkEntries r
def uptoBulkEntry {H : Type} : Lit × DataW H → Nat
  | (.string bytes, d) => bytes.length + uptoBulk d + 1
  | (_, d) => uptoBulk d + 1
 end
def uptoSmall : (H : Type) → List (DataW H) → Bool := fun _ ds => decide (uptoBulkAll ds ≤ 1048576)
def OpenSpec.upto (s : _root_.Go.ChangeSpec) : _root_.Go.OpenSpec := { _root_.Go.OpenSpec.ofChange s with cond := some uptoSmall }

/-- 'laws.FnLaunch', WHERE WHAT IT READS IS OF BULK AT MOST 1048576: true; the input reads as it did. -/
def fnLaunchUptoRow : OpenClaim := { program := "ytjfhdelphfgojaa", sum := "8f848c7c34ba4f017892f53ba902cbc9941069a9ef0c750fc8b1b9daa6f6e9f1", func := "loop.example/g00814/laws.FnLaunch", spec := "fnLaunch", unfollowed := true, recurses := true, apart := false, narrowed := true }
def FnLaunchUptoSaid : Prop := fnLaunchUptoRow.holds Try.pinned (OpenSpec.upto fnLaunchSpec)

/-- 'laws.FnAnswer', WHERE WHAT IT READS IS OF BULK AT MOST 1048576: true; the input reads as it did. -/
def fnAnswerUptoRow : OpenClaim := { program := "ytjfhdelphfgojaa", sum := "8f848c7c34ba4f017892f53ba902cbc9941069a9ef0c750fc8b1b9daa6f6e9f1", func := "loop.example/g00814/laws.FnAnswer", spec := "fnAnswer", unfollowed := true, recurses := true, apart := false, narrowed := true }
def FnAnswerUptoSaid : Prop := fnAnswerUptoRow.holds Try.pinned (OpenSpec.upto fnAnswerSpec)

/-- 'laws.FnLate', WHERE WHAT IT READS IS OF BULK AT MOST 1048576: true; the input reads as it did. -/
def fnLateUptoRow : OpenClaim := { program := "ytjfhdelphfgojaa", sum := "8f848c7c34ba4f017892f53ba902cbc9941069a9ef0c750fc8b1b9daa6f6e9f1", func := "loop.example/g00814/laws.FnLate", spec := "fnLate", unfollowed := true, recurses := true, apart := false, narrowed := true }
def FnLateUptoSaid : Prop := fnLateUptoRow.holds Try.pinned (OpenSpec.upto fnLateSpec)

/-- 'laws.FnJoin', WHERE WHAT IT READS IS OF BULK AT MOST 1048576: true; the input reads as it did. -/
def fnJoinUptoRow : OpenClaim := { program := "ytjfhdelphfgojaa", sum := "8f848c7c34ba4f017892f53ba902cbc9941069a9ef0c750fc8b1b9daa6f6e9f1", func := "loop.example/g00814/laws.FnJoin", spec := "fnJoin", unfollowed := true, recurses := true, apart := false, narrowed := true }
def FnJoinUptoSaid : Prop := fnJoinUptoRow.holds Try.pinned (OpenSpec.upto fnJoinSpec)

/-- 'laws.FnSeqs', WHERE WHAT IT READS IS OF BULK AT MOST 1048576: true; the input reads as it did. -/
def fnSeqsUptoRow : OpenClaim := { program := "ytjfhdelphfgojaa", sum := "8f848c7c34ba4f017892f53ba902cbc9941069a9ef0c750fc8b1b9daa6f6e9f1", func := "loop.example/g00814/laws.FnSeqs", spec := "fnSeqs", unfollowed := true, recurses := true, apart := false, narrowed := true }
def FnSeqsUptoSaid : Prop := fnSeqsUptoRow.holds Try.pinned (OpenSpec.upto fnSeqsSpec)

/-- 'laws.FnTwoAnswers', WHERE WHAT IT READS IS OF BULK AT MOST 1048576: true; the input reads as it did. -/
def fnTwoAnswersUptoRow : OpenClaim := { program := "ytjfhdelphfgojaa", sum := "8f848c7c34ba4f017892f53ba902cbc9941069a9ef0c750fc8b1b9daa6f6e9f1", func := "loop.example/g00814/laws.FnTwoAnswers", spec := "fnTwoAnswers", unfollowed := true, recurses := true, apart := false, narrowed := true }
def FnTwoAnswersUptoSaid : Prop := fnTwoAnswersUptoRow.holds Try.pinned (OpenSpec.upto fnTwoAnswersSpec)

/-- 'laws.FnExactLinkOk', WHERE WHAT IT READS IS OF BULK AT MOST 1048576: true; the input reads as it did. -/
def fnExactLinkOkUptoRow : OpenClaim := { program := "ytjfhdelphfgojaa", sum := "8f848c7c34ba4f017892f53ba902cbc9941069a9ef0c750fc8b1b9daa6f6e9f1", func := "loop.example/g00814/laws.FnExactLinkOk", spec := "fnExactLinkOk", apart := false, narrowed := true }
def FnExactLinkOkUptoSaid : Prop := fnExactLinkOkUptoRow.holds Try.pinned (OpenSpec.upto fnExactLinkOkSpec)

/-- 'laws.FnExactLaunch', WHERE WHAT IT READS IS OF BULK AT MOST 1048576: true; the input reads as it did. -/
def fnExactLaunchUptoRow : OpenClaim := { program := "ytjfhdelphfgojaa", sum := "8f848c7c34ba4f017892f53ba902cbc9941069a9ef0c750fc8b1b9daa6f6e9f1", func := "loop.example/g00814/laws.FnExactLaunch", spec := "fnExactLaunch", apart := false, narrowed := true }
def FnExactLaunchUptoSaid : Prop := fnExactLaunchUptoRow.holds Try.pinned (OpenSpec.upto fnExactLaunchSpec)

/-- 'laws.FnExactAnswer', WHERE WHAT IT READS IS OF BULK AT MOST 1048576: true; the input reads as it did. -/
def fnExactAnswerUptoRow : OpenClaim := { program := "ytjfhdelphfgojaa", sum := "8f848c7c34ba4f017892f53ba902cbc9941069a9ef0c750fc8b1b9daa6f6e9f1", func := "loop.example/g00814/laws.FnExactAnswer", spec := "fnExactAnswer", unfollowed := true, recurses := true, apart := false, narrowed := true }
def FnExactAnswerUptoSaid : Prop := fnExactAnswerUptoRow.holds Try.pinned (OpenSpec.upto fnExactAnswerSpec)

/-- 'laws.FnExactForget', WHERE WHAT IT READS IS OF BULK AT MOST 1048576: true; the input reads as it did. -/
def fnExactForgetUptoRow : OpenClaim := { program := "ytjfhdelphfgojaa", sum := "8f848c7c34ba4f017892f53ba902cbc9941069a9ef0c750fc8b1b9daa6f6e9f1", func := "loop.example/g00814/laws.FnExactForget", spec := "fnExactForget", unfollowed := true, recurses := true, apart := false, narrowed := true }
def FnExactForgetUptoSaid : Prop := fnExactForgetUptoRow.holds Try.pinned (OpenSpec.upto fnExactForgetSpec)

/-- 'laws.FnExactLate', WHERE WHAT IT READS IS OF BULK AT MOST 1048576: true; the input reads as it did. -/
def fnExactLateUptoRow : OpenClaim := { program := "ytjfhdelphfgojaa", sum := "8f848c7c34ba4f017892f53ba902cbc9941069a9ef0c750fc8b1b9daa6f6e9f1", func := "loop.example/g00814/laws.FnExactLate", spec := "fnExactLate", unfollowed := true, recurses := true, apart := false, narrowed := true }
def FnExactLateUptoSaid : Prop := fnExactLateUptoRow.holds Try.pinned (OpenSpec.upto fnExactLateSpec)

/-- 'laws.FnExactJoin', WHERE WHAT IT READS IS OF BULK AT MOST 1048576: true; the input reads as it did. -/
def fnExactJoinUptoRow : OpenClaim := { program := "ytjfhdelphfgojaa", sum := "8f848c7c34ba4f017892f53ba902cbc9941069a9ef0c750fc8b1b9daa6f6e9f1", func := "loop.example/g00814/laws.FnExactJoin", spec := "fnExactJoin", apart := false, narrowed := true }
def FnExactJoinUptoSaid : Prop := fnExactJoinUptoRow.holds Try.pinned (OpenSpec.upto fnExactJoinSpec)

/-- 'laws.FnExactLeave', WHERE WHAT IT READS IS OF BULK AT MOST 1048576: true; the input reads as it did. -/
def fnExactLeaveUptoRow : OpenClaim := { program := "ytjfhdelphfgojaa", sum := "8f848c7c34ba4f017892f53ba902cbc9941069a9ef0c750fc8b1b9daa6f6e9f1", func := "loop.example/g00814/laws.FnExactLeave", spec := "fnExactLeave", apart := false, narrowed := true }
def FnExactLeaveUptoSaid : Prop := fnExactLeaveUptoRow.holds Try.pinned (OpenSpec.upto fnExactLeaveSpec)

end Rows
end Go.Proofs.Ytjfhdelphfgojaa
