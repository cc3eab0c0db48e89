/-
  The document's own answers: small.
-/
import Derived.Test.YtiehipnaklkhjaaSetD
import Derived.Test.YtiehipnaklkhjaaSetB
namespace Go.Proofs.Ytiehipnaklkhjaa
open Go.RowKit Nt
set_option linter.unusedSimpArgs false
set_option linter.unusedVariables false
set_option maxRecDepth 20000

end Go.Proofs.Ytiehipnaklkhjaa
