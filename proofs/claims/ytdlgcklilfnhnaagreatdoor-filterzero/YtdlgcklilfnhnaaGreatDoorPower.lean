/-
  nat.power, nat.Pow.
-/
import Derived.Test.YtdlgcklilfnhnaaGreatDoorSetK
import Derived.Test.YtdlgcklilfnhnaaGreatDoorSetC
namespace Go.Proofs.YtdlgcklilfnhnaaGreatDoor
open Go.RowKit Nt
set_option linter.unusedSimpArgs false
set_option linter.unusedVariables false
set_option maxRecDepth 20000

end Go.Proofs.YtdlgcklilfnhnaaGreatDoor
