import Derived.Test.YtdlhgmfahdbgmaaSetB
import Derived.Test.YtdlhgmfahdbgmaaSetK
import Derived.Test.YtdlhgmfahdbgmaaSetE
import Derived.Laws.Append
import Derived.Laws.IdiomStrings
import Derived.Test.YtdlhgmfahdbgmaaRsF
import Derived.Test.YtdlhgmfahdbgmaaRsJ
/-
  The text of 1.
-/
namespace Go.Proofs.Ytdlhgmfahdbgmaa
open Go.RowKit Nt
set_option linter.unusedSimpArgs false
set_option linter.unusedVariables false
set_option maxRecDepth 20000

end Go.Proofs.Ytdlhgmfahdbgmaa

/-
  The greatest divisor of 2 and 2; 2 by 2 in lowest terms; its text.
-/
namespace Go.Proofs.Ytdlhgmfahdbgmaa
open Go.RowKit Nt
set_option linter.unusedSimpArgs false
set_option linter.unusedVariables false
set_option maxRecDepth 20000

end Go.Proofs.Ytdlhgmfahdbgmaa

/-
  zint.Near, where the rest is a half or more.
-/
namespace Go.Proofs.Ytdlhgmfahdbgmaa
open Go.RowKit Nt
set_option linter.unusedSimpArgs false
set_option linter.unusedVariables false
set_option maxRecDepth 20000

end Go.Proofs.Ytdlhgmfahdbgmaa

/-
  2 by 2 in lowest terms is 1 by 1; its text.
-/
namespace Go.Proofs.Ytdlhgmfahdbgmaa
open Go.RowKit Nt
set_option linter.unusedSimpArgs false
set_option linter.unusedVariables false
set_option maxRecDepth 20000

end Go.Proofs.Ytdlhgmfahdbgmaa

/-
  What the law's awake calls.
-/
namespace Go.Proofs.Ytdlhgmfahdbgmaa
open Go.RowKit Nt
set_option linter.unusedSimpArgs false
set_option linter.unusedVariables false
set_option maxRecDepth 20000

end Go.Proofs.Ytdlhgmfahdbgmaa
