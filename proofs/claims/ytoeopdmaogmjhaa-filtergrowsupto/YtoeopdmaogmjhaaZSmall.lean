/-
 Small: a number as an int64, zint's.
-/
import Derived.Test.YtoeopdmaogmjhaaSetE
import Derived.Test.YtoeopdmaogmjhaaSetK
namespace Go.Proofs.Ytoeopdmaogmjhaa
open Go.RowKit Nt
set_option linter.unusedSimpArgs false
set_option linter.unusedVariables false
set_option maxRecDepth 20000

end Go.Proofs.Ytoeopdmaogmjhaa
