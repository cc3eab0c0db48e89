/-
  zint's products, and the document's: with the way through a statement that draws its order.
-/
import Derived.Test.YtppihbknldmllaaDoorZFrame
import Derived.Test.YtppihbknldmllaaDoorSetA
import Derived.Test.YtppihbknldmllaaDoorSetC
namespace Go.Proofs.YtppihbknldmllaaDoor
open Go.RowKit Nt
set_option linter.unusedSimpArgs false
set_option linter.unusedVariables false
set_option maxRecDepth 20000

end Go.Proofs.YtppihbknldmllaaDoor
