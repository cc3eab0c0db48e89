/-
  nat.power, nat.Pow.
-/
import Derived.Test.YtkiholgfamfgeaaSetK
import Derived.Test.YtkiholgfamfgeaaSetC
namespace Go.Proofs.Ytkiholgfamfgeaa
open Go.RowKit Nt
set_option linter.unusedSimpArgs false
set_option linter.unusedVariables false
set_option maxRecDepth 20000

end Go.Proofs.Ytkiholgfamfgeaa
