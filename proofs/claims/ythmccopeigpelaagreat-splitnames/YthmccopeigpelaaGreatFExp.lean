/-
 math.normalize, Frexp and Ldexp, as ival.Exact calls them.
-/
import Derived.Test.YthmccopeigpelaaGreatFBits
import Derived.Test.YthmccopeigpelaaGreatFNear
namespace Go.Proofs.YthmccopeigpelaaGreat
open Go.RowKit Nt
set_option linter.unusedSimpArgs false
set_option linter.unusedVariables false
set_option maxRecDepth 20000

end Go.Proofs.YthmccopeigpelaaGreat
