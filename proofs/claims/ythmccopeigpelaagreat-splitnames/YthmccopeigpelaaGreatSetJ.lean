import Derived.Test.YthmccopeigpelaaGreatSetA
/-
 The small calls of package euclid: trim, limb.
-/
namespace Go.Proofs.YthmccopeigpelaaGreat
open Go.RowKit Nt
set_option linter.unusedSimpArgs false
set_option linter.unusedVariables false
set_option maxRecDepth 20000

end Go.Proofs.YthmccopeigpelaaGreat

/-
 nat.gcdWords: Euclid's rest by rest, of words.
-/
namespace Go.Proofs.YthmccopeigpelaaGreat
open Go.RowKit Nt
set_option linter.unusedSimpArgs false
set_option linter.unusedVariables false
set_option maxRecDepth 20000

end Go.Proofs.YthmccopeigpelaaGreat
