import Derived.Test.YtgalppimdmjdcabGreatDoorSetG
import Derived.Test.YtgalppimdmjdcabGreatDoorSetW
/-
  Make of a numerator and a denominator by their names, of either sign; the denominators' product.
-/
namespace Go.Proofs.YtgalppimdmjdcabGreatDoor
open Go.RowKit Nt
set_option linter.unusedSimpArgs false
set_option linter.unusedVariables false
set_option maxRecDepth 20000

end Go.Proofs.YtgalppimdmjdcabGreatDoor

/-
  rat.Make and rat.lowest of a numerator and a denominator by their names.
-/
namespace Go.Proofs.YtgalppimdmjdcabGreatDoor
open Go.RowKit Nt
set_option linter.unusedSimpArgs false
set_option linter.unusedVariables false
set_option maxRecDepth 20000

end Go.Proofs.YtgalppimdmjdcabGreatDoor

/-
  rat.Mul and rat.Div.
-/
namespace Go.Proofs.YtgalppimdmjdcabGreatDoor
open Go.RowKit Nt
set_option linter.unusedSimpArgs false
set_option linter.unusedVariables false
set_option maxRecDepth 20000

end Go.Proofs.YtgalppimdmjdcabGreatDoor
