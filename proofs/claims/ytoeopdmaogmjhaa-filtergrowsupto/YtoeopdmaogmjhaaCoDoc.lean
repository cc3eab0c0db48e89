/-
 The document's along, squares and products of rationals as they came in, Coords.
-/
import Derived.Test.YtoeopdmaogmjhaaCoA
import Derived.Test.YtoeopdmaogmjhaaCoB
import Derived.Test.YtoeopdmaogmjhaaVaAll
namespace Go.Proofs.Ytoeopdmaogmjhaa
open Go Go.RowKit Nt
set_option linter.unusedSimpArgs false
set_option linter.unusedVariables false
set_option maxRecDepth 20000

end Go.Proofs.Ytoeopdmaogmjhaa
