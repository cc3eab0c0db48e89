/-
  nat.power, nat.Pow.
-/
import Derived.Test.YtkiholgfamfgeaaGreatSetK
import Derived.Test.YtkiholgfamfgeaaGreatSetC
namespace Go.Proofs.YtkiholgfamfgeaaGreat
open Go.RowKit Nt
set_option linter.unusedSimpArgs false
set_option linter.unusedVariables false
set_option maxRecDepth 20000

end Go.Proofs.YtkiholgfamfgeaaGreat
