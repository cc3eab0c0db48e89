import Derived.Test.YtkiholgfamfgeaaSetU
import Derived.Test.YtkiholgfamfgeaaSetC
import Derived.Test.YtkiholgfamfgeaaSetD
import Derived.Test.YtkiholgfamfgeaaSetB
import Derived.Test.YtkiholgfamfgeaaSetK
import Derived.Laws.AppendOwnNone
/-
  The document's own answers: Two, Shl, Shr.
-/
namespace Go.Proofs.Ytkiholgfamfgeaa
open Go.RowKit Nt
set_option linter.unusedSimpArgs false
set_option linter.unusedVariables false
set_option maxRecDepth 20000

end Go.Proofs.Ytkiholgfamfgeaa

/-
  The document's own answers: small.
-/
namespace Go.Proofs.Ytkiholgfamfgeaa
open Go.RowKit Nt
set_option linter.unusedSimpArgs false
set_option linter.unusedVariables false
set_option maxRecDepth 20000

end Go.Proofs.Ytkiholgfamfgeaa

/-
  The numbers behind the document's Div.
-/
namespace Go.Proofs.Ytkiholgfamfgeaa
open Go.RowKit Nt
set_option linter.unusedSimpArgs false
set_option linter.unusedVariables false
set_option maxRecDepth 20000

end Go.Proofs.Ytkiholgfamfgeaa

/-
  The document's own answer: Div, limb by limb from the top, each limb guessed and corrected downward.
-/
namespace Go.Proofs.Ytkiholgfamfgeaa
open Go.RowKit Nt
set_option linter.unusedSimpArgs false
set_option linter.unusedVariables false
set_option maxRecDepth 20000

end Go.Proofs.Ytkiholgfamfgeaa

/-
  The document's Div by two limbs and more.
-/
namespace Go.Proofs.Ytkiholgfamfgeaa
open Go.RowKit Nt
set_option linter.unusedSimpArgs false
set_option linter.unusedVariables false
set_option maxRecDepth 20000

end Go.Proofs.Ytkiholgfamfgeaa
