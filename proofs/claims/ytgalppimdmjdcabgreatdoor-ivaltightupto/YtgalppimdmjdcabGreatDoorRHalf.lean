/-
  The law's own helpers: whole, half.
-/
import Derived.Test.YtgalppimdmjdcabGreatDoorSetG
import Derived.Test.YtgalppimdmjdcabGreatDoorSetE
namespace Go.Proofs.YtgalppimdmjdcabGreatDoor
open Go.RowKit Nt
set_option linter.unusedSimpArgs false
set_option linter.unusedVariables false
set_option maxRecDepth 20000

end Go.Proofs.YtgalppimdmjdcabGreatDoor
