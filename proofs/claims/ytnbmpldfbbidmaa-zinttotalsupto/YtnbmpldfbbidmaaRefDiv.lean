/-
  The document's own answer: Div, limb by limb from the top, each limb guessed and corrected downward.
-/
import Derived.Test.YtnbmpldfbbidmaaRefDivMath
import Derived.Test.YtnbmpldfbbidmaaSetB
namespace Go.Proofs.Ytnbmpldfbbidmaa
open Go.RowKit Nt
set_option linter.unusedSimpArgs false
set_option linter.unusedVariables false

end Go.Proofs.Ytnbmpldfbbidmaa
