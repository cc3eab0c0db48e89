/-
 The document's shape of rows.
-/
import Derived.Test.YtoeopdmaogmjhaaAtField
import Derived.Test.YtoeopdmaogmjhaaGlA
namespace Go.Proofs.Ytoeopdmaogmjhaa
open Go Go.RowKit Nt
set_option linter.unusedSimpArgs false
set_option linter.unusedVariables false
set_option maxRecDepth 20000

end Go.Proofs.Ytoeopdmaogmjhaa
