import Derived.Test.YtcljffdkonapeaaConts
import Derived.Test.YtcljffdkonapeaaSetI
/-
  The document's quotients: Floor, Near, Exact.
-/
namespace Go.Proofs.Ytcljffdkonapeaa
open Go Go.RowKit Nt
set_option linter.unusedSimpArgs false
set_option linter.unusedVariables false

end Go.Proofs.Ytcljffdkonapeaa

/-
  zint's quotients: Floor, Near, Exact, whole.
-/
namespace Go.Proofs.Ytcljffdkonapeaa
open Go Go.RowKit Nt
set_option linter.unusedSimpArgs false
set_option linter.unusedVariables false


end Go.Proofs.Ytcljffdkonapeaa
