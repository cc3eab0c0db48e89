/-
 More of the document's rationals and of the laws' questions, in the form that the logic of statements takes.
-/
import Derived.Test.YtnhfpekpdephjaaGreatRsK
namespace Go.Proofs.YtnhfpekpdephjaaGreat
open Go Go.RowKit Nt
set_option linter.unusedSimpArgs false
set_option linter.unusedVariables false
set_option maxRecDepth 20000

end Go.Proofs.YtnhfpekpdephjaaGreat
