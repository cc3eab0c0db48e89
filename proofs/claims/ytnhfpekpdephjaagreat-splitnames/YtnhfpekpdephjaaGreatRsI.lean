import Derived.Test.YtnhfpekpdephjaaGreatSetJ
import Derived.Test.YtnhfpekpdephjaaGreatSetK
import Derived.Test.YtnhfpekpdephjaaGreatDiffer
import Derived.Test.YtnhfpekpdephjaaGreatSetB
import Derived.Test.YtnhfpekpdephjaaGreatRsA
/-
 euclid.window, euclid.highest: the highest 64 bits.
-/
namespace Go.Proofs.YtnhfpekpdephjaaGreat
open Go.RowKit Nt
set_option linter.unusedSimpArgs false
set_option linter.unusedVariables false
set_option maxRecDepth 20000

end Go.Proofs.YtnhfpekpdephjaaGreat

/-
 euclid.highest: the highest 64 bits of a, and those of b at the same places.
-/
namespace Go.Proofs.YtnhfpekpdephjaaGreat
open Go.RowKit Nt
set_option linter.unusedSimpArgs false
set_option linter.unusedVariables false
set_option maxRecDepth 20000

end Go.Proofs.YtnhfpekpdephjaaGreat
