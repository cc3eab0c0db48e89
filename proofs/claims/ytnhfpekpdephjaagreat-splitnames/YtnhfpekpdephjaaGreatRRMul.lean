/-
 The document's product of rationals, and quotient by one above nought.
-/
import Derived.Test.YtnhfpekpdephjaaGreatRConts2
import Derived.Test.YtnhfpekpdephjaaGreatSetR
namespace Go.Proofs.YtnhfpekpdephjaaGreat
open Go Go.RowKit Nt
set_option linter.unusedSimpArgs false
set_option linter.unusedVariables false
set_option maxRecDepth 20000

end Go.Proofs.YtnhfpekpdephjaaGreat
