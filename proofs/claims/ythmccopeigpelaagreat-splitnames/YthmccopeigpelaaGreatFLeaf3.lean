/-
 Down and Up, the program's and the document's; low, high, equal.
-/
import Derived.Test.YthmccopeigpelaaGreatFLeaf2
namespace Go.Proofs.YthmccopeigpelaaGreat
open Go.RowKit Nt
set_option linter.unusedSimpArgs false
set_option linter.unusedVariables false
set_option maxRecDepth 20000

end Go.Proofs.YthmccopeigpelaaGreat
