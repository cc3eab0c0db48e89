/-
  nat.gcdWords: Euclid's rest by rest, of words.
-/
import Derived.Test.YtblmlhhicpomkaaDoorEuclid
namespace Go.Proofs.YtblmlhhicpomkaaDoor
open Go.RowKit Nt
set_option linter.unusedSimpArgs false
set_option linter.unusedVariables false

end Go.Proofs.YtblmlhhicpomkaaDoor
