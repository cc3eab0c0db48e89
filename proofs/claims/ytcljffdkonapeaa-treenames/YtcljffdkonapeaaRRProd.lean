/-
  The document's product and quotient of two rationals that may be.
-/
import Derived.Test.YtcljffdkonapeaaRsG
namespace Go.Proofs.Ytcljffdkonapeaa
open Go.RowKit Nt
set_option linter.unusedSimpArgs false
set_option linter.unusedVariables false

end Go.Proofs.Ytcljffdkonapeaa
