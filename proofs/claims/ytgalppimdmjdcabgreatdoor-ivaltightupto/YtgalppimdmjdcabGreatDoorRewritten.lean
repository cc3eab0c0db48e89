/-
  A row whose number was written anew, in place.
-/
import Derived.Test.YtgalppimdmjdcabGreatDoorSetA
namespace Go.Proofs.YtgalppimdmjdcabGreatDoor
open Go.RowKit Nt
set_option linter.unusedSimpArgs false
set_option linter.unusedVariables false
set_option maxRecDepth 20000

end Go.Proofs.YtgalppimdmjdcabGreatDoor
