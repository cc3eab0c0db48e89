import Derived.Test.YthmccopeigpelaaGreatVcA
/-
 mat.each and mat.pairs: the list of what a function makes of the parts of lists.
-/
namespace Go.Proofs.YthmccopeigpelaaGreat
open Go Go.RowKit Nt
set_option linter.unusedSimpArgs false
set_option linter.unusedVariables false
set_option maxRecDepth 20000


end Go.Proofs.YthmccopeigpelaaGreat

/-
 Vectors: mat and the document.
-/
namespace Go.Proofs.YthmccopeigpelaaGreat
open Go Go.RowKit Nt
set_option linter.unusedSimpArgs false
set_option linter.unusedVariables false
set_option maxRecDepth 20000


end Go.Proofs.YthmccopeigpelaaGreat

/-
 The laws' own: copies of lists, and whether two lists are the same.
-/
namespace Go.Proofs.YthmccopeigpelaaGreat
open Go Go.RowKit Nt
set_option linter.unusedSimpArgs false
set_option linter.unusedVariables false
set_option maxRecDepth 20000

end Go.Proofs.YthmccopeigpelaaGreat
