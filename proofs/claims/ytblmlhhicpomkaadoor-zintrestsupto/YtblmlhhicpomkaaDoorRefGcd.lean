/-
  The document's Gcd: Euclid's steps.
-/
import Derived.Test.YtblmlhhicpomkaaDoorSetP
import Derived.Deep.LoopGhost
namespace Go.Proofs.YtblmlhhicpomkaaDoor
open Go.RowKit Nt
set_option linter.unusedSimpArgs false
set_option linter.unusedVariables false

end Go.Proofs.YtblmlhhicpomkaaDoor
