import Derived.Test.YtgalppimdmjdcaaGreatDoorSetG
import Derived.Test.YtgalppimdmjdcaaGreatDoorSetW
/-
  Make of a numerator and a denominator by their names, of either sign; the denominators' product.
-/
namespace Go.Proofs.YtgalppimdmjdcaaGreatDoor
open Go.RowKit Nt
set_option linter.unusedSimpArgs false
set_option linter.unusedVariables false
set_option maxRecDepth 20000

end Go.Proofs.YtgalppimdmjdcaaGreatDoor

/-
  rat.Make and rat.lowest of a numerator and a denominator by their names.
-/
namespace Go.Proofs.YtgalppimdmjdcaaGreatDoor
open Go.RowKit Nt
set_option linter.unusedSimpArgs false
set_option linter.unusedVariables false
set_option maxRecDepth 20000

end Go.Proofs.YtgalppimdmjdcaaGreatDoor

/-
  rat.Mul and rat.Div.
-/
namespace Go.Proofs.YtgalppimdmjdcaaGreatDoor
open Go.RowKit Nt
set_option linter.unusedSimpArgs false
set_option linter.unusedVariables false
set_option maxRecDepth 20000

end Go.Proofs.YtgalppimdmjdcaaGreatDoor
