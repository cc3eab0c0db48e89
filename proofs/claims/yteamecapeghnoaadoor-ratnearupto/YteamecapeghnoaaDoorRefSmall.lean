/-
  The document's own answers: small.
-/
import Derived.Test.YteamecapeghnoaaDoorSetD
import Derived.Test.YteamecapeghnoaaDoorSetB
namespace Go.Proofs.YteamecapeghnoaaDoor
open Go.RowKit Nt
set_option linter.unusedSimpArgs false
set_option linter.unusedVariables false
set_option maxRecDepth 20000

end Go.Proofs.YteamecapeghnoaaDoor
