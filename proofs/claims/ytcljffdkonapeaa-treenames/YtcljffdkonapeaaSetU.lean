import Derived.Test.YtcljffdkonapeaaBits
import Derived.Test.YtcljffdkonapeaaSetA
import Derived.Test.YtcljffdkonapeaaSetK
/-
  nat.up, nat.down, nat.Shl, nat.Shr.
-/
namespace Go.Proofs.Ytcljffdkonapeaa
open Go.RowKit Nt
set_option linter.unusedSimpArgs false
set_option linter.unusedVariables false

end Go.Proofs.Ytcljffdkonapeaa

/-
  nat.down, nat.Shl, nat.Shr.
-/
namespace Go.Proofs.Ytcljffdkonapeaa
open Go.RowKit Nt
set_option linter.unusedSimpArgs false
set_option linter.unusedVariables false

end Go.Proofs.Ytcljffdkonapeaa
