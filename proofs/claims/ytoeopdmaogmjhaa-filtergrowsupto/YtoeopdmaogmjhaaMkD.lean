import Derived.Test.YtoeopdmaogmjhaaFiC
import Derived.Test.YtoeopdmaogmjhaaDtA
import Derived.Test.YtoeopdmaogmjhaaGsD
import Derived.Test.YtoeopdmaogmjhaaMkB
/-
 The norm of data of rows is the squared length of the vector.
-/
namespace Go.Proofs.Ytoeopdmaogmjhaa
open Go Go.RowKit Nt
set_option linter.unusedSimpArgs false
set_option linter.unusedVariables false
set_option maxRecDepth 20000

end Go.Proofs.Ytoeopdmaogmjhaa

/-
 A sum of rows by a list of numbers, and its squared length.
-/
namespace Go.Proofs.Ytoeopdmaogmjhaa
open Go Go.RowKit Nt
set_option linter.unusedSimpArgs false
set_option linter.unusedVariables false
set_option maxRecDepth 20000

end Go.Proofs.Ytoeopdmaogmjhaa
