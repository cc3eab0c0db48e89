import Derived.Test.YtoeopdmaogmjhaaVcA
import Derived.Test.YtoeopdmaogmjhaaSetV
/-
 Matrices: copies, whether two are the same: the laws' own.
-/
namespace Go.Proofs.Ytoeopdmaogmjhaa
open Go Go.RowKit Nt
set_option linter.unusedSimpArgs false
set_option linter.unusedVariables false
set_option maxRecDepth 20000

end Go.Proofs.Ytoeopdmaogmjhaa

/-
 Shapes: mat.Shape and the document's.
-/
namespace Go.Proofs.Ytoeopdmaogmjhaa
open Go Go.RowKit Nt
set_option linter.unusedSimpArgs false
set_option linter.unusedVariables false
set_option maxRecDepth 20000


end Go.Proofs.Ytoeopdmaogmjhaa
