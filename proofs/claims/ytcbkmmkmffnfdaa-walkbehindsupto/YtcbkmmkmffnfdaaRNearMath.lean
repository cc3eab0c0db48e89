/-
 Signs and scaling; how long the nearest whole number is.
-/
import Derived.Test.YtcbkmmkmffnfdaaRsK
namespace Go.Proofs.Ytcbkmmkmffnfdaa
open Go Go.RowKit Nt
set_option linter.unusedSimpArgs false
set_option linter.unusedVariables false

end Go.Proofs.Ytcbkmmkmffnfdaa
