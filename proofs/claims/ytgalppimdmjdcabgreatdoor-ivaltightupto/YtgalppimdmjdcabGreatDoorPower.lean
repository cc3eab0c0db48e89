/-
  nat.power, nat.Pow.
-/
import Derived.Test.YtgalppimdmjdcabGreatDoorSetK
import Derived.Test.YtgalppimdmjdcabGreatDoorSetC
namespace Go.Proofs.YtgalppimdmjdcabGreatDoor
open Go.RowKit Nt
set_option linter.unusedSimpArgs false
set_option linter.unusedVariables false
set_option maxRecDepth 20000

end Go.Proofs.YtgalppimdmjdcabGreatDoor
