/-
  nat.power, nat.Pow.
-/
import Derived.Test.YtgalppimdmjdcaaGreatDoorSetK
import Derived.Test.YtgalppimdmjdcaaGreatDoorSetC
namespace Go.Proofs.YtgalppimdmjdcaaGreatDoor
open Go.RowKit Nt
set_option linter.unusedSimpArgs false
set_option linter.unusedVariables false
set_option maxRecDepth 20000

end Go.Proofs.YtgalppimdmjdcaaGreatDoor
