/-
 euclid.differ: a p - b q, where that is not below 0.
-/
import Derived.Test.YtcbkmmkmffnfdaaSetJ
import Derived.Test.YtcbkmmkmffnfdaaSetA
import Derived.Test.YtcbkmmkmffnfdaaRsA
namespace Go.Proofs.Ytcbkmmkmffnfdaa
open Go.RowKit Nt
set_option linter.unusedSimpArgs false
set_option linter.unusedVariables false

end Go.Proofs.Ytcbkmmkmffnfdaa
