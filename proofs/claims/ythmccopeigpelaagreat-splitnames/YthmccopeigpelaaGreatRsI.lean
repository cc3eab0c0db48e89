import Derived.Test.YthmccopeigpelaaGreatSetJ
import Derived.Test.YthmccopeigpelaaGreatSetK
import Derived.Test.YthmccopeigpelaaGreatDiffer
import Derived.Test.YthmccopeigpelaaGreatSetB
import Derived.Test.YthmccopeigpelaaGreatRsA
/-
 euclid.window, euclid.highest: the highest 64 bits.
-/
namespace Go.Proofs.YthmccopeigpelaaGreat
open Go.RowKit Nt
set_option linter.unusedSimpArgs false
set_option linter.unusedVariables false
set_option maxRecDepth 20000

end Go.Proofs.YthmccopeigpelaaGreat

/-
 euclid.highest: the highest 64 bits of a, and those of b at the same places.
-/
namespace Go.Proofs.YthmccopeigpelaaGreat
open Go.RowKit Nt
set_option linter.unusedSimpArgs false
set_option linter.unusedVariables false
set_option maxRecDepth 20000

end Go.Proofs.YthmccopeigpelaaGreat
