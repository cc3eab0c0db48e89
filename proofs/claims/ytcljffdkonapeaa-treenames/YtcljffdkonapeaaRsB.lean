import Derived.Test.YtcljffdkonapeaaRsA
import Derived.Test.YtcljffdkonapeaaRsI
import Derived.Deep.RegionHeld3
import Derived.Test.YtcljffdkonapeaaSetB
import Derived.Test.YtcljffdkonapeaaSetJ
import Derived.Test.YtcljffdkonapeaaSetK
import Derived.Deep.LoopGhost
/-
  euclid.Look: many steps at once.
-/
namespace Go.Proofs.Ytcljffdkonapeaa
open Go.RowKit Nt
set_option linter.unusedSimpArgs false
set_option linter.unusedVariables false

end Go.Proofs.Ytcljffdkonapeaa

/-
  euclid.Steps.Rests: the pair behind the steps.
-/
namespace Go.Proofs.Ytcljffdkonapeaa
open Go.RowKit Nt
set_option linter.unusedSimpArgs false
set_option linter.unusedVariables false

end Go.Proofs.Ytcljffdkonapeaa

/-
  nat.lower: on in the row of rests, by many places or by one.
-/
namespace Go.Proofs.Ytcljffdkonapeaa
open Go.RowKit Nt
set_option linter.unusedSimpArgs false
set_option linter.unusedVariables false

end Go.Proofs.Ytcljffdkonapeaa

/-
  nat.Gcd: many of Euclid's steps at once, the last ones with words.
-/
namespace Go.Proofs.Ytcljffdkonapeaa
open Go.RowKit Nt
set_option linter.unusedSimpArgs false
set_option linter.unusedVariables false

end Go.Proofs.Ytcljffdkonapeaa
