/-
  DERIVED. GIVEN WITH THE SEED: THE CARDS: each row of YtgbdmpfojiihnaaDoorRows.lean that lists a variable, with what it lists TIED to the program's text (the seventh form; the later family's looks); each row that meets fmt, with fmt's text TOLD by the authors' own Lean function (tested against real Go, not proved from fmt's source: count such statements apart). THE CARD IS WHAT COUNTS. Prove the row's statement (the work); the ties are given (YtgbdmpfojiihnaaDoorTie.lean); close each card by the builder's one call (the guide's Derived/Test/ToyasCard.lean, 'card_holds'). Laid BY PROGRAM, IN A SANDBOX (cutbox-door.mjs). By AI agents, Wed Nov 11 2026. No macro, syntax, notation, axiom, sorry.
-/
import Derived.Test.YtgbdmpfojiihnaaDoorRows
import GoSem.ClaimSeven
namespace Go.Proofs.YtgbdmpfojiihnaaDoor
namespace Rows

/-- THE TIED CARD OF 'laws.FnGet'. -/
def fnGetCard : Claim7 := { stood := { row := fnGetRow, standIns := [], harness := (true, "6024d5ae489a26b80b8d61ba7911d86eb97a433b6b4be16a25224121eafb8635"), looks := true }, kinds := [], alts := [], laidByText := true, laidKinds := [.data, .data, .data], laidTests := true, laidLooks := .later }
def FnGetCardSaid : Prop := Claim7.holds Tryd.pinned (.plain (OpenSpec.ofChange fnGetSpec)) fnGetCard

/-- THE TIED CARD OF 'laws.FnExactFrameText'. -/
def fnExactFrameTextCard : Claim7 := { stood := { row := fnExactFrameTextRow, standIns := [], harness := (true, "6024d5ae489a26b80b8d61ba7911d86eb97a433b6b4be16a25224121eafb8635"), looks := true }, kinds := [], alts := [], laidByText := true, laidKinds := [.data, .data, .data], laidTests := true, laidLooks := .later }
def FnExactFrameTextCardSaid : Prop := Claim7.holds Tryd.pinned (.plain (OpenSpec.ofChange fnExactFrameTextSpec)) fnExactFrameTextCard

/-- THE SECOND FORM's CARD OF 'laws.FnGet'. -/
def fnGetUptoCard : Claim7 := { stood := { row := fnGetUptoRow, standIns := [], harness := (true, "6024d5ae489a26b80b8d61ba7911d86eb97a433b6b4be16a25224121eafb8635"), looks := true }, kinds := [], alts := [], laidByText := true, laidKinds := [.data, .data, .data], laidTests := true, laidLooks := .later }
def FnGetUptoCardSaid : Prop := Claim7.holds Tryd.pinned (.plain (OpenSpec.upto fnGetSpec)) fnGetUptoCard

/-- THE SECOND FORM's CARD OF 'laws.FnExactFrameText'. -/
def fnExactFrameTextUptoCard : Claim7 := { stood := { row := fnExactFrameTextUptoRow, standIns := [], harness := (true, "6024d5ae489a26b80b8d61ba7911d86eb97a433b6b4be16a25224121eafb8635"), looks := true }, kinds := [], alts := [], laidByText := true, laidKinds := [.data, .data, .data], laidTests := true, laidLooks := .later }
def FnExactFrameTextUptoCardSaid : Prop := Claim7.holds Tryd.pinned (.plain (OpenSpec.upto fnExactFrameTextSpec)) fnExactFrameTextUptoCard
end Rows
end Go.Proofs.YtgbdmpfojiihnaaDoor
