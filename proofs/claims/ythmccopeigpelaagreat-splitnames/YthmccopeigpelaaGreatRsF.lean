import Derived.Test.YthmccopeigpelaaGreatRsC
import Derived.Test.YthmccopeigpelaaGreatSetI
import Derived.Test.YthmccopeigpelaaGreatSetE
import Derived.Test.YthmccopeigpelaaGreatRsB
import Derived.Deep.RegionHeld3
/-
 The document's Make, of a denominator below 0.
-/
namespace Go.Proofs.YthmccopeigpelaaGreat
open Go.RowKit Nt
set_option linter.unusedSimpArgs false
set_option linter.unusedVariables false
set_option maxRecDepth 20000

end Go.Proofs.YthmccopeigpelaaGreat

/-
 zint.Exact, where nothing is left; zint.Near.
-/
namespace Go.Proofs.YthmccopeigpelaaGreat
open Go.RowKit Nt
set_option linter.unusedSimpArgs false
set_option linter.unusedVariables false
set_option maxRecDepth 20000

end Go.Proofs.YthmccopeigpelaaGreat

/-
 zint.Gcd, whole; rat.lowest, whole.
-/
namespace Go.Proofs.YthmccopeigpelaaGreat
open Go.RowKit Nt
set_option linter.unusedSimpArgs false
set_option linter.unusedVariables false
set_option maxRecDepth 20000

end Go.Proofs.YthmccopeigpelaaGreat

/-
 rat.Make.
-/
namespace Go.Proofs.YthmccopeigpelaaGreat
open Go.RowKit Nt
set_option linter.unusedSimpArgs false
set_option linter.unusedVariables false
set_option maxRecDepth 20000

end Go.Proofs.YthmccopeigpelaaGreat
