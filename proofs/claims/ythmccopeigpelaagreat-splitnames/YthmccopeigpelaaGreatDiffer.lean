/-
 euclid.differ: a p - b q, where that is not below 0.
-/
import Derived.Test.YthmccopeigpelaaGreatSetJ
import Derived.Test.YthmccopeigpelaaGreatSetA
import Derived.Test.YthmccopeigpelaaGreatRsA
namespace Go.Proofs.YthmccopeigpelaaGreat
open Go.RowKit Nt
set_option linter.unusedSimpArgs false
set_option linter.unusedVariables false
set_option maxRecDepth 20000

end Go.Proofs.YthmccopeigpelaaGreat
