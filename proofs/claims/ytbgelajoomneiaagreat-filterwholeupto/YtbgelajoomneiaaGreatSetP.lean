import Derived.Test.YtbgelajoomneiaaGreatSetU
import Derived.Test.YtbgelajoomneiaaGreatSetC
import Derived.Test.YtbgelajoomneiaaGreatSetD
import Derived.Test.YtbgelajoomneiaaGreatSetB
import Derived.Test.YtbgelajoomneiaaGreatSetK
import Derived.Laws.AppendOwnNone
/-
 The document's own answers: Two, Shl, Shr.
-/
namespace Go.Proofs.YtbgelajoomneiaaGreat
open Go.RowKit Nt
set_option linter.unusedSimpArgs false
set_option linter.unusedVariables false
set_option maxRecDepth 20000

end Go.Proofs.YtbgelajoomneiaaGreat

/-
 The document's own answers: small.
-/
namespace Go.Proofs.YtbgelajoomneiaaGreat
open Go.RowKit Nt
set_option linter.unusedSimpArgs false
set_option linter.unusedVariables false
set_option maxRecDepth 20000

end Go.Proofs.YtbgelajoomneiaaGreat

/-
 The numbers behind the document's Div.
-/
namespace Go.Proofs.YtbgelajoomneiaaGreat
open Go.RowKit Nt
set_option linter.unusedSimpArgs false
set_option linter.unusedVariables false
set_option maxRecDepth 20000

end Go.Proofs.YtbgelajoomneiaaGreat

/-
 The document's own answer: Div, limb by limb from the top, each limb guessed and corrected downward.
-/
namespace Go.Proofs.YtbgelajoomneiaaGreat
open Go.RowKit Nt
set_option linter.unusedSimpArgs false
set_option linter.unusedVariables false
set_option maxRecDepth 20000

end Go.Proofs.YtbgelajoomneiaaGreat

/-
 The document's Div by two limbs and more.
-/
namespace Go.Proofs.YtbgelajoomneiaaGreat
open Go.RowKit Nt
set_option linter.unusedSimpArgs false
set_option linter.unusedVariables false
set_option maxRecDepth 20000

end Go.Proofs.YtbgelajoomneiaaGreat
