import Derived.Test.YtcbkmmkmffnfdaaVcA
/-
 mat.each and mat.pairs: the list of what a function makes of the parts of lists.
-/
namespace Go.Proofs.Ytcbkmmkmffnfdaa
open Go Go.RowKit Nt
set_option linter.unusedSimpArgs false
set_option linter.unusedVariables false


end Go.Proofs.Ytcbkmmkmffnfdaa

/-
 Vectors: mat and the document.
-/
namespace Go.Proofs.Ytcbkmmkmffnfdaa
open Go Go.RowKit Nt
set_option linter.unusedSimpArgs false
set_option linter.unusedVariables false


/-! Sums of lists. -/
def sumZ : List Int → Int
 | [] => 0
 | x :: r => x + sumZ r
end Go.Proofs.Ytcbkmmkmffnfdaa

/-
 The laws' own: copies of lists, and whether two lists are the same.
-/
namespace Go.Proofs.Ytcbkmmkmffnfdaa
open Go Go.RowKit Nt
set_option linter.unusedSimpArgs false
set_option linter.unusedVariables false

end Go.Proofs.Ytcbkmmkmffnfdaa
