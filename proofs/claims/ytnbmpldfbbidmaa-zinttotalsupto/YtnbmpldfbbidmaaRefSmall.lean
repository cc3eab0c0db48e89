/-
  The document's own answers: small.
-/
import Derived.Test.YtnbmpldfbbidmaaSetD
import Derived.Test.YtnbmpldfbbidmaaSetB
namespace Go.Proofs.Ytnbmpldfbbidmaa
open Go.RowKit Nt
set_option linter.unusedSimpArgs false
set_option linter.unusedVariables false

end Go.Proofs.Ytnbmpldfbbidmaa
