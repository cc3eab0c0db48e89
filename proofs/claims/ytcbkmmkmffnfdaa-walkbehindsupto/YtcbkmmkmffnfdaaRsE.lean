import Derived.Test.YtcbkmmkmffnfdaaSetB
import Derived.Test.YtcbkmmkmffnfdaaSetK
import Derived.Test.YtcbkmmkmffnfdaaSetE
import Derived.Laws.Append
import Derived.Laws.IdiomStrings
import Derived.Test.YtcbkmmkmffnfdaaRsF
import Derived.Test.YtcbkmmkmffnfdaaRsJ
/-
 The text of 1.
-/
namespace Go.Proofs.Ytcbkmmkmffnfdaa
open Go.RowKit Nt
set_option linter.unusedSimpArgs false
set_option linter.unusedVariables false

end Go.Proofs.Ytcbkmmkmffnfdaa

/-
 The greatest divisor of 2 and 2; 2 by 2 in lowest terms; its text.
-/
namespace Go.Proofs.Ytcbkmmkmffnfdaa
open Go.RowKit Nt
set_option linter.unusedSimpArgs false
set_option linter.unusedVariables false

end Go.Proofs.Ytcbkmmkmffnfdaa

/-
 zint.Near, where the rest is a half or more.
-/
namespace Go.Proofs.Ytcbkmmkmffnfdaa
open Go.RowKit Nt
set_option linter.unusedSimpArgs false
set_option linter.unusedVariables false

end Go.Proofs.Ytcbkmmkmffnfdaa

/-
 2 by 2 in lowest terms is 1 by 1; its text.
-/
namespace Go.Proofs.Ytcbkmmkmffnfdaa
open Go.RowKit Nt
set_option linter.unusedSimpArgs false
set_option linter.unusedVariables false

end Go.Proofs.Ytcbkmmkmffnfdaa

/-
 What the law's awake calls.
-/
namespace Go.Proofs.Ytcbkmmkmffnfdaa
open Go.RowKit Nt
set_option linter.unusedSimpArgs false
set_option linter.unusedVariables false

end Go.Proofs.Ytcbkmmkmffnfdaa
