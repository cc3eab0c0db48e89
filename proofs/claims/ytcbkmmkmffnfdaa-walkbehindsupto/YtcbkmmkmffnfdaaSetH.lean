import Derived.Test.YtcbkmmkmffnfdaaVcA
import Derived.Test.YtcbkmmkmffnfdaaSetV
/-
 Matrices: copies, whether two are the same: the laws' own.
-/
namespace Go.Proofs.Ytcbkmmkmffnfdaa
open Go Go.RowKit Nt
set_option linter.unusedSimpArgs false
set_option linter.unusedVariables false

end Go.Proofs.Ytcbkmmkmffnfdaa

/-
 Shapes: mat.Shape and the document's.
-/
namespace Go.Proofs.Ytcbkmmkmffnfdaa
open Go Go.RowKit Nt
set_option linter.unusedSimpArgs false
set_option linter.unusedVariables false


end Go.Proofs.Ytcbkmmkmffnfdaa
