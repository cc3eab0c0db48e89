import Derived.Test.YthmccopeigpelaaGreatVcA
import Derived.Test.YthmccopeigpelaaGreatSetV
/-
 Matrices: copies, whether two are the same: the laws' own.
-/
namespace Go.Proofs.YthmccopeigpelaaGreat
open Go Go.RowKit Nt
set_option linter.unusedSimpArgs false
set_option linter.unusedVariables false
set_option maxRecDepth 20000

end Go.Proofs.YthmccopeigpelaaGreat

/-
 Shapes: mat.Shape and the document's.
-/
namespace Go.Proofs.YthmccopeigpelaaGreat
open Go Go.RowKit Nt
set_option linter.unusedSimpArgs false
set_option linter.unusedVariables false
set_option maxRecDepth 20000


end Go.Proofs.YthmccopeigpelaaGreat
