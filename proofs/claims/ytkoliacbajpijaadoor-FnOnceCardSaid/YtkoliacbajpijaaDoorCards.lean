/-
  DERIVED. GIVEN WITH THE SEED: THE CARDS: each row of YtkoliacbajpijaaDoorRows.lean that lists a variable, with what it lists TIED to the program's text (the seventh form; the later family's looks); each row that meets fmt, with fmt's text TOLD by the authors' own Lean function (tested against real Go, not proved from fmt's source: count such statements apart). THE CARD IS WHAT COUNTS. Prove the row's statement (the work); the ties are given (YtkoliacbajpijaaDoorTie.lean); close each card by the builder's one call (the guide's Derived/Test/ToyasCard.lean, 'card_holds'). Laid BY PROGRAM, IN A SANDBOX (cutbox-door.mjs). By AI agents, Wed Nov 11 2026. No macro, syntax, notation, axiom, sorry.
-/
import Derived.Test.YtkoliacbajpijaaDoorRows
import GoSem.ClaimSeven
namespace Go.Proofs.YtkoliacbajpijaaDoor
namespace Rows

/-- THE TIED CARD OF 'laws.FnTimer'. -/
def fnTimerCard : Claim7 := { stood := { row := fnTimerRow, standIns := [], harness := (true, "ee9259050f82567edcb639117c63324ddd50ae90843f81b1af0be82c391ca7b8"), looks := false }, kinds := [], alts := [], laidByText := true, laidKinds := [.data], laidTests := true, laidLooks := .later }
def FnTimerCardSaid : Prop := Claim7.holds Tryd.pinned (.plain (OpenSpec.ofChange fnTimerSpec)) fnTimerCard

/-- THE TIED CARD OF 'laws.FnDrop'. -/
def fnDropCard : Claim7 := { stood := { row := fnDropRow, standIns := [], harness := (true, "ee9259050f82567edcb639117c63324ddd50ae90843f81b1af0be82c391ca7b8"), looks := false }, kinds := [], alts := [], laidByText := true, laidKinds := [.data], laidTests := true, laidLooks := .later }
def FnDropCardSaid : Prop := Claim7.holds Tryd.pinned (.plain (OpenSpec.ofChange fnDropSpec)) fnDropCard

/-- THE TIED CARD OF 'laws.FnTurn'. -/
def fnTurnCard : Claim7 := { stood := { row := fnTurnRow, standIns := [], harness := (true, "ee9259050f82567edcb639117c63324ddd50ae90843f81b1af0be82c391ca7b8"), looks := false }, kinds := [], alts := [], laidByText := true, laidKinds := [.data], laidTests := true, laidLooks := .later }
def FnTurnCardSaid : Prop := Claim7.holds Tryd.pinned (.plain (OpenSpec.ofChange fnTurnSpec)) fnTurnCard

/-- THE TIED CARD OF 'laws.FnOnce'. -/
def fnOnceCard : Claim7 := { stood := { row := fnOnceRow, standIns := [], harness := (true, "ee9259050f82567edcb639117c63324ddd50ae90843f81b1af0be82c391ca7b8"), looks := false }, kinds := [], alts := [], laidByText := true, laidKinds := [.data], laidTests := true, laidLooks := .later }
def FnOnceCardSaid : Prop := Claim7.holds Tryd.pinned (.plain (OpenSpec.ofChange fnOnceSpec)) fnOnceCard

/-- THE TIED CARD OF 'laws.FnFull'. -/
def fnFullCard : Claim7 := { stood := { row := fnFullRow, standIns := [], harness := (true, "ee9259050f82567edcb639117c63324ddd50ae90843f81b1af0be82c391ca7b8"), looks := false }, kinds := [], alts := [], laidByText := true, laidKinds := [.data], laidTests := true, laidLooks := .later }
def FnFullCardSaid : Prop := Claim7.holds Tryd.pinned (.plain (OpenSpec.ofChange fnFullSpec)) fnFullCard

/-- THE TIED CARD OF 'laws.FnExactSetTimer'. -/
def fnExactSetTimerCard : Claim7 := { stood := { row := fnExactSetTimerRow, standIns := [], harness := (true, "ee9259050f82567edcb639117c63324ddd50ae90843f81b1af0be82c391ca7b8"), looks := false }, kinds := [], alts := [], laidByText := true, laidKinds := [.data], laidTests := true, laidLooks := .later }
def FnExactSetTimerCardSaid : Prop := Claim7.holds Tryd.pinned (.plain (OpenSpec.ofChange fnExactSetTimerSpec)) fnExactSetTimerCard

/-- THE TIED CARD OF 'laws.FnExactDropTimer'. -/
def fnExactDropTimerCard : Claim7 := { stood := { row := fnExactDropTimerRow, standIns := [], harness := (true, "ee9259050f82567edcb639117c63324ddd50ae90843f81b1af0be82c391ca7b8"), looks := false }, kinds := [], alts := [], laidByText := true, laidKinds := [.data], laidTests := true, laidLooks := .later }
def FnExactDropTimerCardSaid : Prop := Claim7.holds Tryd.pinned (.plain (OpenSpec.ofChange fnExactDropTimerSpec)) fnExactDropTimerCard

/-- THE TIED CARD OF 'laws.FnExactTurnWheel'. -/
def fnExactTurnWheelCard : Claim7 := { stood := { row := fnExactTurnWheelRow, standIns := [], harness := (true, "ee9259050f82567edcb639117c63324ddd50ae90843f81b1af0be82c391ca7b8"), looks := false }, kinds := [], alts := [], laidByText := true, laidKinds := [.data], laidTests := true, laidLooks := .later }
def FnExactTurnWheelCardSaid : Prop := Claim7.holds Tryd.pinned (.plain (OpenSpec.ofChange fnExactTurnWheelSpec)) fnExactTurnWheelCard

/-- THE SECOND FORM's CARD OF 'laws.FnTimer'. -/
def fnTimerUptoCard : Claim7 := { stood := { row := fnTimerUptoRow, standIns := [], harness := (true, "ee9259050f82567edcb639117c63324ddd50ae90843f81b1af0be82c391ca7b8"), looks := false }, kinds := [], alts := [], laidByText := true, laidKinds := [.data], laidTests := true, laidLooks := .later }
def FnTimerUptoCardSaid : Prop := Claim7.holds Tryd.pinned (.plain (OpenSpec.upto fnTimerSpec)) fnTimerUptoCard

/-- THE SECOND FORM's CARD OF 'laws.FnDrop'. -/
def fnDropUptoCard : Claim7 := { stood := { row := fnDropUptoRow, standIns := [], harness := (true, "ee9259050f82567edcb639117c63324ddd50ae90843f81b1af0be82c391ca7b8"), looks := false }, kinds := [], alts := [], laidByText := true, laidKinds := [.data], laidTests := true, laidLooks := .later }
def FnDropUptoCardSaid : Prop := Claim7.holds Tryd.pinned (.plain (OpenSpec.upto fnDropSpec)) fnDropUptoCard

/-- THE SECOND FORM's CARD OF 'laws.FnTurn'. -/
def fnTurnUptoCard : Claim7 := { stood := { row := fnTurnUptoRow, standIns := [], harness := (true, "ee9259050f82567edcb639117c63324ddd50ae90843f81b1af0be82c391ca7b8"), looks := false }, kinds := [], alts := [], laidByText := true, laidKinds := [.data], laidTests := true, laidLooks := .later }
def FnTurnUptoCardSaid : Prop := Claim7.holds Tryd.pinned (.plain (OpenSpec.upto fnTurnSpec)) fnTurnUptoCard

/-- THE SECOND FORM's CARD OF 'laws.FnOnce'. -/
def fnOnceUptoCard : Claim7 := { stood := { row := fnOnceUptoRow, standIns := [], harness := (true, "ee9259050f82567edcb639117c63324ddd50ae90843f81b1af0be82c391ca7b8"), looks := false }, kinds := [], alts := [], laidByText := true, laidKinds := [.data], laidTests := true, laidLooks := .later }
def FnOnceUptoCardSaid : Prop := Claim7.holds Tryd.pinned (.plain (OpenSpec.upto fnOnceSpec)) fnOnceUptoCard

/-- THE SECOND FORM's CARD OF 'laws.FnFull'. -/
def fnFullUptoCard : Claim7 := { stood := { row := fnFullUptoRow, standIns := [], harness := (true, "ee9259050f82567edcb639117c63324ddd50ae90843f81b1af0be82c391ca7b8"), looks := false }, kinds := [], alts := [], laidByText := true, laidKinds := [.data], laidTests := true, laidLooks := .later }
def FnFullUptoCardSaid : Prop := Claim7.holds Tryd.pinned (.plain (OpenSpec.upto fnFullSpec)) fnFullUptoCard

/-- THE SECOND FORM's CARD OF 'laws.FnExactSetTimer'. -/
def fnExactSetTimerUptoCard : Claim7 := { stood := { row := fnExactSetTimerUptoRow, standIns := [], harness := (true, "ee9259050f82567edcb639117c63324ddd50ae90843f81b1af0be82c391ca7b8"), looks := false }, kinds := [], alts := [], laidByText := true, laidKinds := [.data], laidTests := true, laidLooks := .later }
def FnExactSetTimerUptoCardSaid : Prop := Claim7.holds Tryd.pinned (.plain (OpenSpec.upto fnExactSetTimerSpec)) fnExactSetTimerUptoCard

/-- THE SECOND FORM's CARD OF 'laws.FnExactDropTimer'. -/
def fnExactDropTimerUptoCard : Claim7 := { stood := { row := fnExactDropTimerUptoRow, standIns := [], harness := (true, "ee9259050f82567edcb639117c63324ddd50ae90843f81b1af0be82c391ca7b8"), looks := false }, kinds := [], alts := [], laidByText := true, laidKinds := [.data], laidTests := true, laidLooks := .later }
def FnExactDropTimerUptoCardSaid : Prop := Claim7.holds Tryd.pinned (.plain (OpenSpec.upto fnExactDropTimerSpec)) fnExactDropTimerUptoCard

/-- THE SECOND FORM's CARD OF 'laws.FnExactTurnWheel'. -/
def fnExactTurnWheelUptoCard : Claim7 := { stood := { row := fnExactTurnWheelUptoRow, standIns := [], harness := (true, "ee9259050f82567edcb639117c63324ddd50ae90843f81b1af0be82c391ca7b8"), looks := false }, kinds := [], alts := [], laidByText := true, laidKinds := [.data], laidTests := true, laidLooks := .later }
def FnExactTurnWheelUptoCardSaid : Prop := Claim7.holds Tryd.pinned (.plain (OpenSpec.upto fnExactTurnWheelSpec)) fnExactTurnWheelUptoCard
end Rows
end Go.Proofs.YtkoliacbajpijaaDoor
