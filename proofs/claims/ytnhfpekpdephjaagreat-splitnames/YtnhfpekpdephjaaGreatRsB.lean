import Derived.Test.YtnhfpekpdephjaaGreatRsA
import Derived.Test.YtnhfpekpdephjaaGreatRsI
import Derived.Deep.RegionHeld3
import Derived.Test.YtnhfpekpdephjaaGreatSetB
import Derived.Test.YtnhfpekpdephjaaGreatSetJ
import Derived.Test.YtnhfpekpdephjaaGreatSetK
import Derived.Deep.LoopGhost
/-
 euclid.Look: many steps at once.
-/
namespace Go.Proofs.YtnhfpekpdephjaaGreat
open Go.RowKit Nt
set_option linter.unusedSimpArgs false
set_option linter.unusedVariables false
set_option maxRecDepth 20000

end Go.Proofs.YtnhfpekpdephjaaGreat

/-
 euclid.Steps.Rests: the pair behind the steps.
-/
namespace Go.Proofs.YtnhfpekpdephjaaGreat
open Go.RowKit Nt
set_option linter.unusedSimpArgs false
set_option linter.unusedVariables false
set_option maxRecDepth 20000

end Go.Proofs.YtnhfpekpdephjaaGreat

/-
 nat.lower: on in the row of rests, by many places or by one.
-/
namespace Go.Proofs.YtnhfpekpdephjaaGreat
open Go.RowKit Nt
set_option linter.unusedSimpArgs false
set_option linter.unusedVariables false
set_option maxRecDepth 20000

end Go.Proofs.YtnhfpekpdephjaaGreat

/-
 nat.Gcd: many of Euclid's steps at once, the last ones with words.
-/
namespace Go.Proofs.YtnhfpekpdephjaaGreat
open Go.RowKit Nt
set_option linter.unusedSimpArgs false
set_option linter.unusedVariables false
set_option maxRecDepth 20000

end Go.Proofs.YtnhfpekpdephjaaGreat
