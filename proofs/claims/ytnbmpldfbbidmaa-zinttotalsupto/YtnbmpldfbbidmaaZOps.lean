/-
  zint's products, and the document's: with the way through a statement that draws its order.
-/
import Derived.Test.YtnbmpldfbbidmaaZFrame
import Derived.Test.YtnbmpldfbbidmaaSetA
import Derived.Test.YtnbmpldfbbidmaaSetC
namespace Go.Proofs.Ytnbmpldfbbidmaa
open Go.RowKit Nt
set_option linter.unusedSimpArgs false
set_option linter.unusedVariables false

end Go.Proofs.Ytnbmpldfbbidmaa
