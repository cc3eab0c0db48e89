/-
 gso.solved, gso.Coords.
-/
import Derived.Test.YtoeopdmaogmjhaaCoB
import Derived.Test.YtoeopdmaogmjhaaFiC
import Derived.Test.YtoeopdmaogmjhaaVaAll
namespace Go.Proofs.Ytoeopdmaogmjhaa
open Go Go.RowKit Nt
set_option linter.unusedSimpArgs false
set_option linter.unusedVariables false
set_option maxRecDepth 20000

end Go.Proofs.Ytoeopdmaogmjhaa
