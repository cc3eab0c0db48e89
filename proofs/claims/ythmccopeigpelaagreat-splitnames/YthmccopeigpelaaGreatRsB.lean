import Derived.Test.YthmccopeigpelaaGreatRsA
import Derived.Test.YthmccopeigpelaaGreatRsI
import Derived.Deep.RegionHeld3
import Derived.Test.YthmccopeigpelaaGreatSetB
import Derived.Test.YthmccopeigpelaaGreatSetJ
import Derived.Test.YthmccopeigpelaaGreatSetK
import Derived.Deep.LoopGhost
/-
 euclid.Look: many steps at once.
-/
namespace Go.Proofs.YthmccopeigpelaaGreat
open Go.RowKit Nt
set_option linter.unusedSimpArgs false
set_option linter.unusedVariables false
set_option maxRecDepth 20000

end Go.Proofs.YthmccopeigpelaaGreat

/-
 euclid.Steps.Rests: the pair behind the steps.
-/
namespace Go.Proofs.YthmccopeigpelaaGreat
open Go.RowKit Nt
set_option linter.unusedSimpArgs false
set_option linter.unusedVariables false
set_option maxRecDepth 20000

end Go.Proofs.YthmccopeigpelaaGreat

/-
 nat.lower: on in the row of rests, by many places or by one.
-/
namespace Go.Proofs.YthmccopeigpelaaGreat
open Go.RowKit Nt
set_option linter.unusedSimpArgs false
set_option linter.unusedVariables false
set_option maxRecDepth 20000

end Go.Proofs.YthmccopeigpelaaGreat

/-
 nat.Gcd: many of Euclid's steps at once, the last ones with words.
-/
namespace Go.Proofs.YthmccopeigpelaaGreat
open Go.RowKit Nt
set_option linter.unusedSimpArgs false
set_option linter.unusedVariables false
set_option maxRecDepth 20000

end Go.Proofs.YthmccopeigpelaaGreat
