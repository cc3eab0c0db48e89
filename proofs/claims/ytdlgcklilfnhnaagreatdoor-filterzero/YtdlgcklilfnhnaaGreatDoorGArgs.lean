/-
  Arguments that are data: two lists in a struct; what the row's reading gives.
-/
import Derived.Test.YtdlgcklilfnhnaaGreatDoorSetL
import Derived.Test.YtdlgcklilfnhnaaGreatDoorVcA
import Derived.Test.YtdlgcklilfnhnaaGreatDoorGsA
namespace Go.Proofs.YtdlgcklilfnhnaaGreatDoor
open Go.ChangeShapes Go.WideShapes Go.ChangeAt Go.RowKit Nt
set_option linter.unusedSimpArgs false
set_option linter.unusedVariables false
set_option maxRecDepth 20000

end Go.Proofs.YtdlgcklilfnhnaaGreatDoor
