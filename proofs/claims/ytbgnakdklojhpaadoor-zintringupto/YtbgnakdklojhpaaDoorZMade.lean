/-
  The document's made, and its calls upon one number.
-/
import Derived.Test.YtbgnakdklojhpaaDoorZFrame
namespace Go.Proofs.YtbgnakdklojhpaaDoor
open Go.RowKit Nt
set_option linter.unusedSimpArgs false
set_option linter.unusedVariables false

end Go.Proofs.YtbgnakdklojhpaaDoor
