/-
  The law's own helpers: whole, half.
-/
import Derived.Test.YtgalppimdmjdcaaGreatSetG
import Derived.Test.YtgalppimdmjdcaaGreatSetE
namespace Go.Proofs.YtgalppimdmjdcaaGreat
open Go.RowKit Nt
set_option linter.unusedSimpArgs false
set_option linter.unusedVariables false
set_option maxRecDepth 20000

end Go.Proofs.YtgalppimdmjdcaaGreat
