/-
 euclid.differ: a p - b q, where that is not below 0.
-/
import Derived.Test.YtnhfpekpdephjaaGreatSetJ
import Derived.Test.YtnhfpekpdephjaaGreatSetA
import Derived.Test.YtnhfpekpdephjaaGreatRsA
namespace Go.Proofs.YtnhfpekpdephjaaGreat
open Go.RowKit Nt
set_option linter.unusedSimpArgs false
set_option linter.unusedVariables false
set_option maxRecDepth 20000

end Go.Proofs.YtnhfpekpdephjaaGreat
