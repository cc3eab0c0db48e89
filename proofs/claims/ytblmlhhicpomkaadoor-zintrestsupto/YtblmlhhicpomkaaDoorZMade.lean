/-
  The document's made, and its calls upon one number.
-/
import Derived.Test.YtblmlhhicpomkaaDoorSetZ
namespace Go.Proofs.YtblmlhhicpomkaaDoor
open Go.RowKit Nt
set_option linter.unusedSimpArgs false
set_option linter.unusedVariables false

end Go.Proofs.YtblmlhhicpomkaaDoor
