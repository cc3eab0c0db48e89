/-
  The law's own helpers: whole, half.
-/
import Derived.Test.YtgalppimdmjdcabGreatSetG
import Derived.Test.YtgalppimdmjdcabGreatSetE
namespace Go.Proofs.YtgalppimdmjdcabGreat
open Go.RowKit Nt
set_option linter.unusedSimpArgs false
set_option linter.unusedVariables false
set_option maxRecDepth 20000

end Go.Proofs.YtgalppimdmjdcabGreat
