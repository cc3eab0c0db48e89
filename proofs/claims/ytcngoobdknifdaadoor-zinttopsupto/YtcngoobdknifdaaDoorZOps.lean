/-
  zint's products, and the document's: with the way through a statement that draws its order.
-/
import Derived.Test.YtcngoobdknifdaaDoorZFrame
import Derived.Test.YtcngoobdknifdaaDoorSetA
import Derived.Test.YtcngoobdknifdaaDoorSetC
namespace Go.Proofs.YtcngoobdknifdaaDoor
open Go.RowKit Nt
set_option linter.unusedSimpArgs false
set_option linter.unusedVariables false

end Go.Proofs.YtcngoobdknifdaaDoor
