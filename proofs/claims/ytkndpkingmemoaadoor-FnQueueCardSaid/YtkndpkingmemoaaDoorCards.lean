/-
  DERIVED. GIVEN WITH THE SEED: THE CARDS: each row of YtkndpkingmemoaaDoorRows.lean that lists a variable, with what it lists TIED to the program's text (the seventh form; the later family's looks); each row that meets fmt, with fmt's text TOLD by the authors' own Lean function (tested against real Go, not proved from fmt's source: count such statements apart). THE CARD IS WHAT COUNTS. Prove the row's statement (the work); the ties are given (YtkndpkingmemoaaDoorTie.lean); close each card by the builder's one call (the guide's Derived/Test/ToyasCard.lean, 'card_holds'). Laid BY PROGRAM, IN A SANDBOX (cutbox-door.mjs). By AI agents, Wed Nov 11 2026. No macro, syntax, notation, axiom, sorry.
-/
import Derived.Test.YtkndpkingmemoaaDoorRows
import GoSem.ClaimSeven
namespace Go.Proofs.YtkndpkingmemoaaDoor
namespace Rows

/-- THE TIED CARD OF 'laws.FnQueue'. -/
def fnQueueCard : Claim7 := { stood := { row := fnQueueRow, standIns := [], harness := (true, "6d668a28325295bc01c60f2dee462fc595452e879336d604707f9f746f20f8ed"), looks := true }, kinds := [], alts := [], laidByText := true, laidKinds := [.handle], laidTests := true, laidLooks := .later }
def FnQueueCardSaid : Prop := Claim7.holds Tryd.pinned (.plain (OpenSpec.ofChange fnQueueSpec)) fnQueueCard

/-- THE TIED CARD OF 'laws.FnRejoin'. -/
def fnRejoinCard : Claim7 := { stood := { row := fnRejoinRow, standIns := [], harness := (true, "6d668a28325295bc01c60f2dee462fc595452e879336d604707f9f746f20f8ed"), looks := true }, kinds := [], alts := [], laidByText := true, laidKinds := [.handle], laidTests := true, laidLooks := .later }
def FnRejoinCardSaid : Prop := Claim7.holds Tryd.pinned (.plain (OpenSpec.ofChange fnRejoinSpec)) fnRejoinCard

/-- THE SECOND FORM's CARD OF 'laws.FnQueue'. -/
def fnQueueUptoCard : Claim7 := { stood := { row := fnQueueUptoRow, standIns := [], harness := (true, "6d668a28325295bc01c60f2dee462fc595452e879336d604707f9f746f20f8ed"), looks := true }, kinds := [], alts := [], laidByText := true, laidKinds := [.handle], laidTests := true, laidLooks := .later }
def FnQueueUptoCardSaid : Prop := Claim7.holds Tryd.pinned (.plain (OpenSpec.upto fnQueueSpec)) fnQueueUptoCard

/-- THE SECOND FORM's CARD OF 'laws.FnRejoin'. -/
def fnRejoinUptoCard : Claim7 := { stood := { row := fnRejoinUptoRow, standIns := [], harness := (true, "6d668a28325295bc01c60f2dee462fc595452e879336d604707f9f746f20f8ed"), looks := true }, kinds := [], alts := [], laidByText := true, laidKinds := [.handle], laidTests := true, laidLooks := .later }
def FnRejoinUptoCardSaid : Prop := Claim7.holds Tryd.pinned (.plain (OpenSpec.upto fnRejoinSpec)) fnRejoinUptoCard
end Rows
end Go.Proofs.YtkndpkingmemoaaDoor
