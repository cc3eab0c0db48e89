import Derived.Test.YtbgelajoomneiaaGreatSetB
import Derived.Test.YtbgelajoomneiaaGreatSetK
import Derived.Test.YtbgelajoomneiaaGreatSetE
import Derived.Laws.Append
import Derived.Laws.IdiomStrings
import Derived.Test.YtbgelajoomneiaaGreatRsF
import Derived.Test.YtbgelajoomneiaaGreatRsJ
/-
 The text of 1.
-/
namespace Go.Proofs.YtbgelajoomneiaaGreat
open Go.RowKit Nt
set_option linter.unusedSimpArgs false
set_option linter.unusedVariables false
set_option maxRecDepth 20000

end Go.Proofs.YtbgelajoomneiaaGreat

/-
 The greatest divisor of 2 and 2; 2 by 2 in lowest terms; its text.
-/
namespace Go.Proofs.YtbgelajoomneiaaGreat
open Go.RowKit Nt
set_option linter.unusedSimpArgs false
set_option linter.unusedVariables false
set_option maxRecDepth 20000

end Go.Proofs.YtbgelajoomneiaaGreat

/-
 zint.Near, where the rest is a half or more.
-/
namespace Go.Proofs.YtbgelajoomneiaaGreat
open Go.RowKit Nt
set_option linter.unusedSimpArgs false
set_option linter.unusedVariables false
set_option maxRecDepth 20000

end Go.Proofs.YtbgelajoomneiaaGreat

/-
 2 by 2 in lowest terms is 1 by 1; its text.
-/
namespace Go.Proofs.YtbgelajoomneiaaGreat
open Go.RowKit Nt
set_option linter.unusedSimpArgs false
set_option linter.unusedVariables false
set_option maxRecDepth 20000

end Go.Proofs.YtbgelajoomneiaaGreat

/-
 What the law's awake calls.
-/
namespace Go.Proofs.YtbgelajoomneiaaGreat
open Go.RowKit Nt
set_option linter.unusedSimpArgs false
set_option linter.unusedVariables false
set_option maxRecDepth 20000

end Go.Proofs.YtbgelajoomneiaaGreat
