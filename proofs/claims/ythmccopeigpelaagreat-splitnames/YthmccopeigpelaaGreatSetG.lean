import Derived.Test.YthmccopeigpelaaGreatSetQ
import Derived.Test.YthmccopeigpelaaGreatSetI
/-
 The document's quotients: Floor, Near, Exact.
-/
namespace Go.Proofs.YthmccopeigpelaaGreat
open Go Go.RowKit Nt
set_option linter.unusedSimpArgs false
set_option linter.unusedVariables false
set_option maxRecDepth 20000

end Go.Proofs.YthmccopeigpelaaGreat

/-
 zint's quotients: Floor, Near, Exact, whole.
-/
namespace Go.Proofs.YthmccopeigpelaaGreat
open Go Go.RowKit Nt
set_option linter.unusedSimpArgs false
set_option linter.unusedVariables false
set_option maxRecDepth 20000


end Go.Proofs.YthmccopeigpelaaGreat
