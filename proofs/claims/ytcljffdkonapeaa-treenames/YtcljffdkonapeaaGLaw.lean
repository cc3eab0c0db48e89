/-
  gso.Of, gso.Valid; the law's awake; GsoNames' walk.
-/
import Derived.Test.YtcljffdkonapeaaGsC
import Derived.Test.YtcljffdkonapeaaMBits
import Derived.Test.YtcljffdkonapeaaSetV
namespace Go.Proofs.Ytcljffdkonapeaa
open Go Go.RowKit Nt
set_option linter.unusedSimpArgs false
set_option linter.unusedVariables false


end Go.Proofs.Ytcljffdkonapeaa
