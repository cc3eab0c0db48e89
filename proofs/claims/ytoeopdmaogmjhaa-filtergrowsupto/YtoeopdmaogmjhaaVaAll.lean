/-
 The document's Valid and gso.Of of every matrix: one error, or the data of a basis.
-/
import Derived.Test.YtoeopdmaogmjhaaMkShape
import Derived.Test.YtoeopdmaogmjhaaFiC
namespace Go.Proofs.Ytoeopdmaogmjhaa
open Go Go.RowKit Nt
set_option linter.unusedSimpArgs false
set_option linter.unusedVariables false
set_option maxRecDepth 20000

end Go.Proofs.Ytoeopdmaogmjhaa
