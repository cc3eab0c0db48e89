import Derived.Test.YtdlhgmfahdbgmaaSetU
import Derived.Test.YtdlhgmfahdbgmaaSetC
import Derived.Test.YtdlhgmfahdbgmaaSetD
import Derived.Test.YtdlhgmfahdbgmaaSetB
import Derived.Test.YtdlhgmfahdbgmaaSetK
import Derived.Laws.AppendOwnNone
/-
  The document's own answers: Two, Shl, Shr.
-/
namespace Go.Proofs.Ytdlhgmfahdbgmaa
open Go.RowKit Nt
set_option linter.unusedSimpArgs false
set_option linter.unusedVariables false
set_option maxRecDepth 20000

end Go.Proofs.Ytdlhgmfahdbgmaa

/-
  The document's own answers: small.
-/
namespace Go.Proofs.Ytdlhgmfahdbgmaa
open Go.RowKit Nt
set_option linter.unusedSimpArgs false
set_option linter.unusedVariables false
set_option maxRecDepth 20000

end Go.Proofs.Ytdlhgmfahdbgmaa

/-
  The numbers behind the document's Div.
-/
namespace Go.Proofs.Ytdlhgmfahdbgmaa
open Go.RowKit Nt
set_option linter.unusedSimpArgs false
set_option linter.unusedVariables false
set_option maxRecDepth 20000

end Go.Proofs.Ytdlhgmfahdbgmaa

/-
  The document's own answer: Div, limb by limb from the top, each limb guessed and corrected downward.
-/
namespace Go.Proofs.Ytdlhgmfahdbgmaa
open Go.RowKit Nt
set_option linter.unusedSimpArgs false
set_option linter.unusedVariables false
set_option maxRecDepth 20000

end Go.Proofs.Ytdlhgmfahdbgmaa

/-
  The document's Div by two limbs and more.
-/
namespace Go.Proofs.Ytdlhgmfahdbgmaa
open Go.RowKit Nt
set_option linter.unusedSimpArgs false
set_option linter.unusedVariables false
set_option maxRecDepth 20000

end Go.Proofs.Ytdlhgmfahdbgmaa
