import Derived.Test.YtcljffdkonapeaaSetJ
import Derived.Test.YtcljffdkonapeaaSetK
import Derived.Test.YtcljffdkonapeaaDiffer
import Derived.Test.YtcljffdkonapeaaSetB
import Derived.Test.YtcljffdkonapeaaRsA
/-
  euclid.window, euclid.highest: the highest 64 bits.
-/
namespace Go.Proofs.Ytcljffdkonapeaa
open Go.RowKit Nt
set_option linter.unusedSimpArgs false
set_option linter.unusedVariables false

end Go.Proofs.Ytcljffdkonapeaa

/-
  euclid.highest: the highest 64 bits of a, and those of b at the same places.
-/
namespace Go.Proofs.Ytcljffdkonapeaa
open Go.RowKit Nt
set_option linter.unusedSimpArgs false
set_option linter.unusedVariables false

end Go.Proofs.Ytcljffdkonapeaa
