/-
 The fields of a float: sign, exponent, fraction, and the bit operations that package math takes to them.
-/
import Derived.Test.YthmccopeigpelaaGreatFLeaf4
namespace Go.Proofs.YthmccopeigpelaaGreat
open Go.RowKit Nt
set_option linter.unusedSimpArgs false
set_option linter.unusedVariables false
set_option maxRecDepth 20000

end Go.Proofs.YthmccopeigpelaaGreat
