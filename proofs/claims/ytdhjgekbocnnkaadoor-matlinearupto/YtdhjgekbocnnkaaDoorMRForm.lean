/-
  Form: the document's.
-/
import Derived.Test.YtdhjgekbocnnkaaDoorSetH
namespace Go.Proofs.YtdhjgekbocnnkaaDoor
open Go Go.RowKit Nt
set_option linter.unusedSimpArgs false
set_option linter.unusedVariables false
set_option maxRecDepth 20000

end Go.Proofs.YtdhjgekbocnnkaaDoor
