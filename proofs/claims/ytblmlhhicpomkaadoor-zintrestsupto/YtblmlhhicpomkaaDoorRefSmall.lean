/-
  The document's own answers: small.
-/
import Derived.Test.YtblmlhhicpomkaaDoorSetD
import Derived.Test.YtblmlhhicpomkaaDoorSetB
namespace Go.Proofs.YtblmlhhicpomkaaDoor
open Go.RowKit Nt
set_option linter.unusedSimpArgs false
set_option linter.unusedVariables false

end Go.Proofs.YtblmlhhicpomkaaDoor
