import Derived.Test.YtnhfpekpdephjaaGreatSetQ
import Derived.Test.YtnhfpekpdephjaaGreatSetI
/-
 The document's quotients: Floor, Near, Exact.
-/
namespace Go.Proofs.YtnhfpekpdephjaaGreat
open Go Go.RowKit Nt
set_option linter.unusedSimpArgs false
set_option linter.unusedVariables false
set_option maxRecDepth 20000

end Go.Proofs.YtnhfpekpdephjaaGreat

/-
 zint's quotients: Floor, Near, Exact, whole.
-/
namespace Go.Proofs.YtnhfpekpdephjaaGreat
open Go Go.RowKit Nt
set_option linter.unusedSimpArgs false
set_option linter.unusedVariables false
set_option maxRecDepth 20000


end Go.Proofs.YtnhfpekpdephjaaGreat
