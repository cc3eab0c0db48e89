/-
  The document's made, and its calls upon one number.
-/
import Derived.Test.YtdhjgekbocnnkaaDoorSetZ
namespace Go.Proofs.YtdhjgekbocnnkaaDoor
open Go.RowKit Nt
set_option linter.unusedSimpArgs false
set_option linter.unusedVariables false
set_option maxRecDepth 20000

end Go.Proofs.YtdhjgekbocnnkaaDoor
