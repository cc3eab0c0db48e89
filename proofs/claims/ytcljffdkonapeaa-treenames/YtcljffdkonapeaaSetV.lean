import Derived.Test.YtcljffdkonapeaaVcA
/-
  mat.each and mat.pairs: the list of what a function makes of the parts of lists.
-/
namespace Go.Proofs.Ytcljffdkonapeaa
open Go Go.RowKit Nt
set_option linter.unusedSimpArgs false
set_option linter.unusedVariables false


end Go.Proofs.Ytcljffdkonapeaa

/-
  Vectors: mat and the document.
-/
namespace Go.Proofs.Ytcljffdkonapeaa
open Go Go.RowKit Nt
set_option linter.unusedSimpArgs false
set_option linter.unusedVariables false


end Go.Proofs.Ytcljffdkonapeaa

/-
  The laws' own: copies of lists, and whether two lists are the same.
-/
namespace Go.Proofs.Ytcljffdkonapeaa
open Go Go.RowKit Nt
set_option linter.unusedSimpArgs false
set_option linter.unusedVariables false

end Go.Proofs.Ytcljffdkonapeaa
