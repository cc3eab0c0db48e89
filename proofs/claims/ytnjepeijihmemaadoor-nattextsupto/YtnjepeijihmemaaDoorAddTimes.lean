/-
  nat.addTimes: a row, with a multiple of another added in place.
-/
import Derived.Test.YtnjepeijihmemaaDoorWrites
namespace Go.Proofs.YtnjepeijihmemaaDoor
open Go.RowKit Nt
set_option linter.unusedSimpArgs false
set_option linter.unusedVariables false

end Go.Proofs.YtnjepeijihmemaaDoor
