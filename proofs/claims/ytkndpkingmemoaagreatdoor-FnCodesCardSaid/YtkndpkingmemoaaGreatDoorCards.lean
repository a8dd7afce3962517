/-
  DERIVED. GIVEN WITH THE SEED: THE CARDS: each row of YtkndpkingmemoaaGreatDoorRows.lean that lists a variable, with what it lists TIED to the program's text (the seventh form; the later family's looks); each row that meets fmt, with fmt's text TOLD by the authors' own Lean function (tested against real Go, not proved from fmt's source: count such statements apart). THE CARD IS WHAT COUNTS. Prove the row's statement (the work); the ties are given (YtkndpkingmemoaaGreatDoorTie.lean); close each card by the builder's one call (the guide's Derived/Test/ToyasCard.lean, 'card_holds'). Laid BY PROGRAM, IN A SANDBOX (cutbox-door.mjs). By AI agents, Wed Nov 11 2026. No macro, syntax, notation, axiom, sorry.
-/
import Derived.Test.YtkndpkingmemoaaGreatDoorRows
import GoSem.ClaimSeven
namespace Go.Proofs.YtkndpkingmemoaaGreatDoor
namespace Rows

/-- THE TIED CARD OF 'laws.FnSubmit'. -/
def fnSubmitCard : Claim7 := { stood := { row := fnSubmitRow, standIns := [], harness := (true, "5706d604e085f6bea5fa27b5879c3b90a6a35e7f7fdd7830a5ffcb4f94e2d728"), looks := true }, kinds := [], alts := [], laidByText := true, laidKinds := [.handle], laidTests := true, laidLooks := .later }
def FnSubmitCardSaid : Prop := Claim7.holds Tryz.pinned (.plain (OpenSpec.ofChange fnSubmitSpec)) fnSubmitCard

/-- THE TIED CARD OF 'laws.FnReceive'. -/
def fnReceiveCard : Claim7 := { stood := { row := fnReceiveRow, standIns := [], harness := (true, "5706d604e085f6bea5fa27b5879c3b90a6a35e7f7fdd7830a5ffcb4f94e2d728"), looks := true }, kinds := [], alts := [], laidByText := true, laidKinds := [.handle], laidTests := true, laidLooks := .later }
def FnReceiveCardSaid : Prop := Claim7.holds Tryz.pinned (.plain (OpenSpec.ofChange fnReceiveSpec)) fnReceiveCard

/-- THE TIED CARD OF 'laws.FnCodes'. -/
def fnCodesCard : Claim7 := { stood := { row := fnCodesRow, standIns := [], harness := (true, "5706d604e085f6bea5fa27b5879c3b90a6a35e7f7fdd7830a5ffcb4f94e2d728"), looks := true }, kinds := [], alts := [], laidByText := true, laidKinds := [.handle], laidTests := true, laidLooks := .later }
def FnCodesCardSaid : Prop := Claim7.holds Tryz.pinned (.plain (OpenSpec.ofChange fnCodesSpec)) fnCodesCard

/-- THE TIED CARD OF 'laws.FnExactSubmit'. -/
def fnExactSubmitCard : Claim7 := { stood := { row := fnExactSubmitRow, standIns := [], harness := (true, "5706d604e085f6bea5fa27b5879c3b90a6a35e7f7fdd7830a5ffcb4f94e2d728"), looks := true }, kinds := [], alts := [], laidByText := true, laidKinds := [.handle], laidTests := true, laidLooks := .later }
def FnExactSubmitCardSaid : Prop := Claim7.holds Tryz.pinned (.plain (OpenSpec.ofChange fnExactSubmitSpec)) fnExactSubmitCard

/-- THE TIED CARD OF 'laws.FnExactReceive'. -/
def fnExactReceiveCard : Claim7 := { stood := { row := fnExactReceiveRow, standIns := [], harness := (true, "5706d604e085f6bea5fa27b5879c3b90a6a35e7f7fdd7830a5ffcb4f94e2d728"), looks := true }, kinds := [], alts := [], laidByText := true, laidKinds := [.handle], laidTests := true, laidLooks := .later }
def FnExactReceiveCardSaid : Prop := Claim7.holds Tryz.pinned (.plain (OpenSpec.ofChange fnExactReceiveSpec)) fnExactReceiveCard

/-- THE SECOND FORM's CARD OF 'laws.FnSubmit'. -/
def fnSubmitUptoCard : Claim7 := { stood := { row := fnSubmitUptoRow, standIns := [], harness := (true, "5706d604e085f6bea5fa27b5879c3b90a6a35e7f7fdd7830a5ffcb4f94e2d728"), looks := true }, kinds := [], alts := [], laidByText := true, laidKinds := [.handle], laidTests := true, laidLooks := .later }
def FnSubmitUptoCardSaid : Prop := Claim7.holds Tryz.pinned (.plain (OpenSpec.upto fnSubmitSpec)) fnSubmitUptoCard

/-- THE SECOND FORM's CARD OF 'laws.FnReceive'. -/
def fnReceiveUptoCard : Claim7 := { stood := { row := fnReceiveUptoRow, standIns := [], harness := (true, "5706d604e085f6bea5fa27b5879c3b90a6a35e7f7fdd7830a5ffcb4f94e2d728"), looks := true }, kinds := [], alts := [], laidByText := true, laidKinds := [.handle], laidTests := true, laidLooks := .later }
def FnReceiveUptoCardSaid : Prop := Claim7.holds Tryz.pinned (.plain (OpenSpec.upto fnReceiveSpec)) fnReceiveUptoCard

/-- THE SECOND FORM's CARD OF 'laws.FnCodes'. -/
def fnCodesUptoCard : Claim7 := { stood := { row := fnCodesUptoRow, standIns := [], harness := (true, "5706d604e085f6bea5fa27b5879c3b90a6a35e7f7fdd7830a5ffcb4f94e2d728"), looks := true }, kinds := [], alts := [], laidByText := true, laidKinds := [.handle], laidTests := true, laidLooks := .later }
def FnCodesUptoCardSaid : Prop := Claim7.holds Tryz.pinned (.plain (OpenSpec.upto fnCodesSpec)) fnCodesUptoCard

/-- THE SECOND FORM's CARD OF 'laws.FnExactSubmit'. -/
def fnExactSubmitUptoCard : Claim7 := { stood := { row := fnExactSubmitUptoRow, standIns := [], harness := (true, "5706d604e085f6bea5fa27b5879c3b90a6a35e7f7fdd7830a5ffcb4f94e2d728"), looks := true }, kinds := [], alts := [], laidByText := true, laidKinds := [.handle], laidTests := true, laidLooks := .later }
def FnExactSubmitUptoCardSaid : Prop := Claim7.holds Tryz.pinned (.plain (OpenSpec.upto fnExactSubmitSpec)) fnExactSubmitUptoCard

/-- THE SECOND FORM's CARD OF 'laws.FnExactReceive'. -/
def fnExactReceiveUptoCard : Claim7 := { stood := { row := fnExactReceiveUptoRow, standIns := [], harness := (true, "5706d604e085f6bea5fa27b5879c3b90a6a35e7f7fdd7830a5ffcb4f94e2d728"), looks := true }, kinds := [], alts := [], laidByText := true, laidKinds := [.handle], laidTests := true, laidLooks := .later }
def FnExactReceiveUptoCardSaid : Prop := Claim7.holds Tryz.pinned (.plain (OpenSpec.upto fnExactReceiveSpec)) fnExactReceiveUptoCard
end Rows
end Go.Proofs.YtkndpkingmemoaaGreatDoor
