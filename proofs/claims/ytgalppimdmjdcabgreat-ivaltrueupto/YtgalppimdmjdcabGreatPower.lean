/-
  nat.power, nat.Pow.
-/
import Derived.Test.YtgalppimdmjdcabGreatSetK
import Derived.Test.YtgalppimdmjdcabGreatSetC
namespace Go.Proofs.YtgalppimdmjdcabGreat
open Go.RowKit Nt
set_option linter.unusedSimpArgs false
set_option linter.unusedVariables false
set_option maxRecDepth 20000

end Go.Proofs.YtgalppimdmjdcabGreat
