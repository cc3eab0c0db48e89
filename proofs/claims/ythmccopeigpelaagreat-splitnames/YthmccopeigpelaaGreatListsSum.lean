/-
 Lists of numbers by their signs and limbs: rows that begin as nil, rows that are read; zint.Sum.
-/
import Derived.Test.YthmccopeigpelaaGreatSetF
import Derived.Test.YthmccopeigpelaaGreatSetY
namespace Go.Proofs.YthmccopeigpelaaGreat
open Go Go.RowKit Nt
set_option linter.unusedSimpArgs false
set_option linter.unusedVariables false
set_option maxRecDepth 20000

end Go.Proofs.YthmccopeigpelaaGreat
