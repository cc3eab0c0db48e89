/-
  euclid.differ: a p - b q, where that is not below 0.
-/
import Derived.Test.YtcljffdkonapeaaSetJ
import Derived.Test.YtcljffdkonapeaaSetA
import Derived.Test.YtcljffdkonapeaaRsA
namespace Go.Proofs.Ytcljffdkonapeaa
open Go.RowKit Nt
set_option linter.unusedSimpArgs false
set_option linter.unusedVariables false

end Go.Proofs.Ytcljffdkonapeaa
