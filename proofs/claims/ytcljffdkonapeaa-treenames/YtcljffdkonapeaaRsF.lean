import Derived.Test.YtcljffdkonapeaaRsC
import Derived.Test.YtcljffdkonapeaaSetI
import Derived.Test.YtcljffdkonapeaaSetE
import Derived.Test.YtcljffdkonapeaaRsB
import Derived.Deep.RegionHeld3
/-
  The document's Make, of a denominator below 0.
-/
namespace Go.Proofs.Ytcljffdkonapeaa
open Go.RowKit Nt
set_option linter.unusedSimpArgs false
set_option linter.unusedVariables false

end Go.Proofs.Ytcljffdkonapeaa

/-
  zint.Exact, where nothing is left; zint.Near.
-/
namespace Go.Proofs.Ytcljffdkonapeaa
open Go.RowKit Nt
set_option linter.unusedSimpArgs false
set_option linter.unusedVariables false

end Go.Proofs.Ytcljffdkonapeaa

/-
  zint.Gcd, whole; rat.lowest, whole.
-/
namespace Go.Proofs.Ytcljffdkonapeaa
open Go.RowKit Nt
set_option linter.unusedSimpArgs false
set_option linter.unusedVariables false

end Go.Proofs.Ytcljffdkonapeaa

/-
  rat.Make.
-/
namespace Go.Proofs.Ytcljffdkonapeaa
open Go.RowKit Nt
set_option linter.unusedSimpArgs false
set_option linter.unusedVariables false

end Go.Proofs.Ytcljffdkonapeaa
