import Derived.Test.YthmccopeigpelaaGreatSetD
import Derived.Test.YthmccopeigpelaaGreatSetA
import Derived.Test.YthmccopeigpelaaGreatSetK
/-
 nat.up, nat.down, nat.Shl, nat.Shr.
-/
namespace Go.Proofs.YthmccopeigpelaaGreat
open Go.RowKit Nt
set_option linter.unusedSimpArgs false
set_option linter.unusedVariables false
set_option maxRecDepth 20000

end Go.Proofs.YthmccopeigpelaaGreat

/-
 nat.down, nat.Shl, nat.Shr.
-/
namespace Go.Proofs.YthmccopeigpelaaGreat
open Go.RowKit Nt
set_option linter.unusedSimpArgs false
set_option linter.unusedVariables false
set_option maxRecDepth 20000

end Go.Proofs.YthmccopeigpelaaGreat
