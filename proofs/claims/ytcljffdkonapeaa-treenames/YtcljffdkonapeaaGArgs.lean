/-
  Arguments that are data: two lists in a struct; what the row's reading gives.
-/
import Derived.Test.YtcljffdkonapeaaSetL
import Derived.Test.YtcljffdkonapeaaMArgs
import Derived.Test.YtcljffdkonapeaaGsA
namespace Go.Proofs.Ytcljffdkonapeaa
open Go.ChangeShapes Go.WideShapes Go.ChangeAt Go.RowKit Nt
set_option linter.unusedSimpArgs false
set_option linter.unusedVariables false

end Go.Proofs.Ytcljffdkonapeaa
