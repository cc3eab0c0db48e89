import Derived.Test.YtcljffdkonapeaaGsD
import Derived.Test.YtcljffdkonapeaaRsK
import Derived.Test.YtcljffdkonapeaaRRProd
import Derived.Test.YtcljffdkonapeaaGsA
import Derived.Test.YtcljffdkonapeaaGArgs
/-
  Rationals by any quotient that they are: sums, products; what the norm by data comes to.
-/
namespace Go.Proofs.Ytcljffdkonapeaa
open Go Go.RowKit Nt
set_option linter.unusedSimpArgs false
set_option linter.unusedVariables false

end Go.Proofs.Ytcljffdkonapeaa

/-
  gso.behind, gso.Norm, what the document says of it.
-/
namespace Go.Proofs.Ytcljffdkonapeaa
open Go Go.RowKit Nt
set_option linter.unusedSimpArgs false
set_option linter.unusedVariables false

end Go.Proofs.Ytcljffdkonapeaa

/-
  GsoNorms' walk.
-/
namespace Go.Proofs.Ytcljffdkonapeaa
open Go Go.RowKit Nt
set_option linter.unusedSimpArgs false
set_option linter.unusedVariables false

end Go.Proofs.Ytcljffdkonapeaa
