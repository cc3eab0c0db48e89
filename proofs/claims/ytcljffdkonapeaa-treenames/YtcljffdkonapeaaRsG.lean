import Derived.Test.YtcljffdkonapeaaRsD
import Derived.Test.YtcljffdkonapeaaRsF
/-
  Make of a numerator and a denominator by their names, of either sign; the denominators' product.
-/
namespace Go.Proofs.Ytcljffdkonapeaa
open Go.RowKit Nt
set_option linter.unusedSimpArgs false
set_option linter.unusedVariables false

end Go.Proofs.Ytcljffdkonapeaa

/-
  rat.Make and rat.lowest of a numerator and a denominator by their names.
-/
namespace Go.Proofs.Ytcljffdkonapeaa
open Go.RowKit Nt
set_option linter.unusedSimpArgs false
set_option linter.unusedVariables false

end Go.Proofs.Ytcljffdkonapeaa

/-
  rat.Mul and rat.Div.
-/
namespace Go.Proofs.Ytcljffdkonapeaa
open Go.RowKit Nt
set_option linter.unusedSimpArgs false
set_option linter.unusedVariables false

end Go.Proofs.Ytcljffdkonapeaa

/-
  The document's product and quotient of two rationals that may be.
-/
namespace Go.Proofs.Ytcljffdkonapeaa
open Go.RowKit Nt
set_option linter.unusedSimpArgs false
set_option linter.unusedVariables false

end Go.Proofs.Ytcljffdkonapeaa
