/-
 nat.power, nat.Pow.
-/
import Derived.Test.YthmccopeigpelaaGreatSetK
import Derived.Test.YthmccopeigpelaaGreatSetC
namespace Go.Proofs.YthmccopeigpelaaGreat
open Go.RowKit Nt
set_option linter.unusedSimpArgs false
set_option linter.unusedVariables false
set_option maxRecDepth 20000

end Go.Proofs.YthmccopeigpelaaGreat
