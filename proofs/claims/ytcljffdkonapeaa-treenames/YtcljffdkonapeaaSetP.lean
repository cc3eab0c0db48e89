import Derived.Test.YtcljffdkonapeaaSetU
import Derived.Test.YtcljffdkonapeaaSetC
import Derived.Test.YtcljffdkonapeaaSetD
import Derived.Test.YtcljffdkonapeaaSetB
import Derived.Test.YtcljffdkonapeaaSetK
import Derived.Laws.AppendOwnNone
/-
  The document's own answers: Two, Shl, Shr.
-/
namespace Go.Proofs.Ytcljffdkonapeaa
open Go.RowKit Nt
set_option linter.unusedSimpArgs false
set_option linter.unusedVariables false

end Go.Proofs.Ytcljffdkonapeaa

/-
  The document's own answers: small.
-/
namespace Go.Proofs.Ytcljffdkonapeaa
open Go.RowKit Nt
set_option linter.unusedSimpArgs false
set_option linter.unusedVariables false

end Go.Proofs.Ytcljffdkonapeaa

/-
  The numbers behind the document's Div.
-/
namespace Go.Proofs.Ytcljffdkonapeaa
open Go.RowKit Nt
set_option linter.unusedSimpArgs false
set_option linter.unusedVariables false

end Go.Proofs.Ytcljffdkonapeaa

/-
  The document's own answer: Div, limb by limb from the top, each limb guessed and corrected downward.
-/
namespace Go.Proofs.Ytcljffdkonapeaa
open Go.RowKit Nt
set_option linter.unusedSimpArgs false
set_option linter.unusedVariables false

end Go.Proofs.Ytcljffdkonapeaa

/-
  The document's Div by two limbs and more.
-/
namespace Go.Proofs.Ytcljffdkonapeaa
open Go.RowKit Nt
set_option linter.unusedSimpArgs false
set_option linter.unusedVariables false

end Go.Proofs.Ytcljffdkonapeaa
