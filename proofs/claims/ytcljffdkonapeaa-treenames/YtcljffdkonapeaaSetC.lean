import Derived.Test.YtcljffdkonapeaaBits
import Derived.Test.YtcljffdkonapeaaSetA
/-
  The document's own answers: Cmp, Bits.
-/
namespace Go.Proofs.Ytcljffdkonapeaa
open Go.RowKit Nt
set_option linter.unusedSimpArgs false
set_option linter.unusedVariables false

end Go.Proofs.Ytcljffdkonapeaa

/-
  The document's own answers: Add, less, Sub.
-/
namespace Go.Proofs.Ytcljffdkonapeaa
open Go.RowKit Nt
set_option linter.unusedSimpArgs false
set_option linter.unusedVariables false

end Go.Proofs.Ytcljffdkonapeaa

/-
  The document's own answer: Mul.
-/
namespace Go.Proofs.Ytcljffdkonapeaa
open Go.RowKit Nt
set_option linter.unusedSimpArgs false
set_option linter.unusedVariables false

end Go.Proofs.Ytcljffdkonapeaa
