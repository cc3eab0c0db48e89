/-
 nat.power, nat.Pow.
-/
import Derived.Test.YtddjoigjdolafaaGreatSetK
import Derived.Test.YtddjoigjdolafaaGreatSetC
namespace Go.Proofs.YtddjoigjdolafaaGreat
open Go.RowKit Nt
set_option linter.unusedSimpArgs false
set_option linter.unusedVariables false
set_option maxRecDepth 20000

end Go.Proofs.YtddjoigjdolafaaGreat
