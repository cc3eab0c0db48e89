import Derived.Test.YtcljffdkonapeaaSetB
import Derived.Test.YtcljffdkonapeaaSetK
import Derived.Test.YtcljffdkonapeaaSetE
import Derived.Laws.Append
import Derived.Laws.IdiomStrings
import Derived.Test.YtcljffdkonapeaaRsF
import Derived.Test.YtcljffdkonapeaaRsJ
/-
  The text of 1.
-/
namespace Go.Proofs.Ytcljffdkonapeaa
open Go.RowKit Nt
set_option linter.unusedSimpArgs false
set_option linter.unusedVariables false

end Go.Proofs.Ytcljffdkonapeaa

/-
  The greatest divisor of 2 and 2; 2 by 2 in lowest terms; its text.
-/
namespace Go.Proofs.Ytcljffdkonapeaa
open Go.RowKit Nt
set_option linter.unusedSimpArgs false
set_option linter.unusedVariables false

end Go.Proofs.Ytcljffdkonapeaa

/-
  zint.Near, where the rest is a half or more.
-/
namespace Go.Proofs.Ytcljffdkonapeaa
open Go.RowKit Nt
set_option linter.unusedSimpArgs false
set_option linter.unusedVariables false

end Go.Proofs.Ytcljffdkonapeaa

/-
  2 by 2 in lowest terms is 1 by 1; its text.
-/
namespace Go.Proofs.Ytcljffdkonapeaa
open Go.RowKit Nt
set_option linter.unusedSimpArgs false
set_option linter.unusedVariables false

end Go.Proofs.Ytcljffdkonapeaa

/-
  What the law's awake calls.
-/
namespace Go.Proofs.Ytcljffdkonapeaa
open Go.RowKit Nt
set_option linter.unusedSimpArgs false
set_option linter.unusedVariables false

end Go.Proofs.Ytcljffdkonapeaa
