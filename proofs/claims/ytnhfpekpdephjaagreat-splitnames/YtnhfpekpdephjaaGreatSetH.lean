import Derived.Test.YtnhfpekpdephjaaGreatVcA
import Derived.Test.YtnhfpekpdephjaaGreatSetV
/-
 Matrices: copies, whether two are the same: the laws' own.
-/
namespace Go.Proofs.YtnhfpekpdephjaaGreat
open Go Go.RowKit Nt
set_option linter.unusedSimpArgs false
set_option linter.unusedVariables false
set_option maxRecDepth 20000

end Go.Proofs.YtnhfpekpdephjaaGreat

/-
 Shapes: mat.Shape and the document's.
-/
namespace Go.Proofs.YtnhfpekpdephjaaGreat
open Go Go.RowKit Nt
set_option linter.unusedSimpArgs false
set_option linter.unusedVariables false
set_option maxRecDepth 20000


end Go.Proofs.YtnhfpekpdephjaaGreat
