/-
  nat.power, nat.Pow.
-/
import Derived.Test.YtcljffdkonapeaaSetK
import Derived.Test.YtcljffdkonapeaaSetC
namespace Go.Proofs.Ytcljffdkonapeaa
open Go.RowKit Nt
set_option linter.unusedSimpArgs false
set_option linter.unusedVariables false

end Go.Proofs.Ytcljffdkonapeaa
