import Derived.Test.YtoeopdmaogmjhaaSetU
import Derived.Test.YtoeopdmaogmjhaaSetC
import Derived.Test.YtoeopdmaogmjhaaSetD
import Derived.Test.YtoeopdmaogmjhaaSetB
import Derived.Test.YtoeopdmaogmjhaaSetK
import Derived.Laws.AppendOwnNone
/-
 The document's own answers: Two, Shl, Shr.
-/
namespace Go.Proofs.Ytoeopdmaogmjhaa
open Go.RowKit Nt
set_option linter.unusedSimpArgs false
set_option linter.unusedVariables false
set_option maxRecDepth 20000

end Go.Proofs.Ytoeopdmaogmjhaa

/-
 The document's own answers: small.
-/
namespace Go.Proofs.Ytoeopdmaogmjhaa
open Go.RowKit Nt
set_option linter.unusedSimpArgs false
set_option linter.unusedVariables false
set_option maxRecDepth 20000

end Go.Proofs.Ytoeopdmaogmjhaa

/-
 The numbers behind the document's Div.
-/
namespace Go.Proofs.Ytoeopdmaogmjhaa
open Go.RowKit Nt
set_option linter.unusedSimpArgs false
set_option linter.unusedVariables false
set_option maxRecDepth 20000

end Go.Proofs.Ytoeopdmaogmjhaa

/-
 The document's own answer: Div, limb by limb from the top, each limb guessed and corrected downward.
-/
namespace Go.Proofs.Ytoeopdmaogmjhaa
open Go.RowKit Nt
set_option linter.unusedSimpArgs false
set_option linter.unusedVariables false
set_option maxRecDepth 20000

end Go.Proofs.Ytoeopdmaogmjhaa

/-
 The document's Div by two limbs and more.
-/
namespace Go.Proofs.Ytoeopdmaogmjhaa
open Go.RowKit Nt
set_option linter.unusedSimpArgs false
set_option linter.unusedVariables false
set_option maxRecDepth 20000

end Go.Proofs.Ytoeopdmaogmjhaa
