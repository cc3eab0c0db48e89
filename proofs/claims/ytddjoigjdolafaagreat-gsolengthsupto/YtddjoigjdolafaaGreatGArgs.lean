/-
 Arguments that are data: two lists in a struct; what the row's reading gives.
-/
import Derived.Test.YtddjoigjdolafaaGreatSetL
import Derived.Test.YtddjoigjdolafaaGreatVcA
import Derived.Test.YtddjoigjdolafaaGreatGsA
namespace Go.Proofs.YtddjoigjdolafaaGreat
open Go.ChangeShapes Go.WideShapes Go.ChangeAt Go.RowKit Nt
set_option linter.unusedSimpArgs false
set_option linter.unusedVariables false
set_option maxRecDepth 20000

end Go.Proofs.YtddjoigjdolafaaGreat
