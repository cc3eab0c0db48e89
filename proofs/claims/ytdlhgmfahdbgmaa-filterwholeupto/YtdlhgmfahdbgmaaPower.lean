/-
  nat.power, nat.Pow.
-/
import Derived.Test.YtdlhgmfahdbgmaaSetK
import Derived.Test.YtdlhgmfahdbgmaaSetC
namespace Go.Proofs.Ytdlhgmfahdbgmaa
open Go.RowKit Nt
set_option linter.unusedSimpArgs false
set_option linter.unusedVariables false
set_option maxRecDepth 20000

end Go.Proofs.Ytdlhgmfahdbgmaa
