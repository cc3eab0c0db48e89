/-
 The document's Down, low and high; the law's equal.
-/
import Derived.Test.YthmccopeigpelaaGreatFLeaf3
namespace Go.Proofs.YthmccopeigpelaaGreat
open Go.RowKit Nt
set_option linter.unusedSimpArgs false
set_option linter.unusedVariables false
set_option maxRecDepth 20000

end Go.Proofs.YthmccopeigpelaaGreat
