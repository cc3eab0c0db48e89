/-
  nat.power, nat.Pow.
-/
import Derived.Test.YtgalppimdmjdcaaGreatSetK
import Derived.Test.YtgalppimdmjdcaaGreatSetC
namespace Go.Proofs.YtgalppimdmjdcaaGreat
open Go.RowKit Nt
set_option linter.unusedSimpArgs false
set_option linter.unusedVariables false
set_option maxRecDepth 20000

end Go.Proofs.YtgalppimdmjdcaaGreat
