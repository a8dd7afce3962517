/-
  The library's table of the lowest bits, from a row's own list.
-/
import Derived.Test.YtkoliacbajpijaaDoorTzW
import Derived.Test.YtkoliacbajpijaaDoorOpnA
import Derived.Lib.LaidTab
namespace Go.Proofs.YtkoliacbajpijaaDoor.Whl
open Go.RowKit
set_option linter.unusedVariables false

theorem tabD_of {W : World} (h : Lib.TabIs Tryd.prog W "math/bits.deBruijn64tab" .u8 (Lib.deBruijn64tab.map Int.ofNat)) (hg : Tryd.prog.globalNamed "math/bits.deBruijn64tab" = some 0) : TabD W := by
  intro i hi
  have := Lib.TabIs.cell h hg i (by simpa [Lib.deBruijn64tab] using hi)
  rw [this]
  congr 2
  rw [List.getD_eq_getElem?_getD, List.getD_eq_getElem?_getD, List.getElem?_map]
  cases Lib.deBruijn64tab[i]? <;> rfl
end Go.Proofs.YtkoliacbajpijaaDoor.Whl
