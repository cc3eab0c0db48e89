/-
  Arguments that are data: two lists in a struct; what the row's reading gives.
-/
import Derived.Test.YtdlhgmfahdbgmaaSetL
import Derived.Test.YtdlhgmfahdbgmaaVcA
import Derived.Test.YtdlhgmfahdbgmaaGsA
namespace Go.Proofs.Ytdlhgmfahdbgmaa
open Go.ChangeShapes Go.WideShapes Go.ChangeAt Go.RowKit Nt
set_option linter.unusedSimpArgs false
set_option linter.unusedVariables false
set_option maxRecDepth 20000

end Go.Proofs.Ytdlhgmfahdbgmaa
