import Derived.Test.YthmccopeigpelaaGreatSetB
import Derived.Test.YthmccopeigpelaaGreatSetK
import Derived.Test.YthmccopeigpelaaGreatSetE
import Derived.Laws.Append
import Derived.Laws.IdiomStrings
import Derived.Test.YthmccopeigpelaaGreatRsF
import Derived.Test.YthmccopeigpelaaGreatRsJ
/-
 The text of 1.
-/
namespace Go.Proofs.YthmccopeigpelaaGreat
open Go.RowKit Nt
set_option linter.unusedSimpArgs false
set_option linter.unusedVariables false
set_option maxRecDepth 20000

end Go.Proofs.YthmccopeigpelaaGreat

/-
 The greatest divisor of 2 and 2; 2 by 2 in lowest terms; its text.
-/
namespace Go.Proofs.YthmccopeigpelaaGreat
open Go.RowKit Nt
set_option linter.unusedSimpArgs false
set_option linter.unusedVariables false
set_option maxRecDepth 20000

end Go.Proofs.YthmccopeigpelaaGreat

/-
 zint.Near, where the rest is a half or more.
-/
namespace Go.Proofs.YthmccopeigpelaaGreat
open Go.RowKit Nt
set_option linter.unusedSimpArgs false
set_option linter.unusedVariables false
set_option maxRecDepth 20000

end Go.Proofs.YthmccopeigpelaaGreat

/-
 2 by 2 in lowest terms is 1 by 1; its text.
-/
namespace Go.Proofs.YthmccopeigpelaaGreat
open Go.RowKit Nt
set_option linter.unusedSimpArgs false
set_option linter.unusedVariables false
set_option maxRecDepth 20000

end Go.Proofs.YthmccopeigpelaaGreat

/-
 What the law's awake calls.
-/
namespace Go.Proofs.YthmccopeigpelaaGreat
open Go.RowKit Nt
set_option linter.unusedSimpArgs false
set_option linter.unusedVariables false
set_option maxRecDepth 20000

end Go.Proofs.YthmccopeigpelaaGreat
