import Derived.Test.YtcljffdkonapeaaVcA
import Derived.Test.YtcljffdkonapeaaSetV
/-
  Matrices: copies, whether two are the same: the laws' own.
-/
namespace Go.Proofs.Ytcljffdkonapeaa
open Go Go.RowKit Nt
set_option linter.unusedSimpArgs false
set_option linter.unusedVariables false

end Go.Proofs.Ytcljffdkonapeaa

/-
  Shapes: mat.Shape and the document's.
-/
namespace Go.Proofs.Ytcljffdkonapeaa
open Go Go.RowKit Nt
set_option linter.unusedSimpArgs false
set_option linter.unusedVariables false


end Go.Proofs.Ytcljffdkonapeaa
