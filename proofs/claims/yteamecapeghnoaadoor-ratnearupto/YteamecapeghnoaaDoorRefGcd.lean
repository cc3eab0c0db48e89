/-
  The document's Gcd: Euclid's steps.
-/
import Derived.Test.YteamecapeghnoaaDoorSetP
import Derived.Deep.LoopGhost
namespace Go.Proofs.YteamecapeghnoaaDoor
open Go.RowKit Nt
set_option linter.unusedSimpArgs false
set_option linter.unusedVariables false
set_option maxRecDepth 20000

end Go.Proofs.YteamecapeghnoaaDoor
