/-
  nat.Sub.
-/
import Derived.Test.YtnjepeijihmemaaDoorSubFrom
namespace Go.Proofs.YtnjepeijihmemaaDoor
open Go.RowKit Nt
set_option linter.unusedSimpArgs false
set_option linter.unusedVariables false

end Go.Proofs.YtnjepeijihmemaaDoor
