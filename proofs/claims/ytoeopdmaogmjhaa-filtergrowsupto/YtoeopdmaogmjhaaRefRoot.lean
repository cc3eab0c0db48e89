/-
 The document's Root: bit by bit from the top.
-/
import Derived.Test.YtoeopdmaogmjhaaSetP
import Derived.Test.YtoeopdmaogmjhaaRootMath
import Derived.Test.YtoeopdmaogmjhaaRoot
import Derived.Deep.LoopGhost
namespace Go.Proofs.Ytoeopdmaogmjhaa
open Go.RowKit Nt
set_option linter.unusedSimpArgs false
set_option linter.unusedVariables false
set_option maxRecDepth 20000

end Go.Proofs.Ytoeopdmaogmjhaa
