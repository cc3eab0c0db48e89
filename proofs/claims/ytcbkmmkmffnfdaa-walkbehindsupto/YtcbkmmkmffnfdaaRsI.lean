import Derived.Test.YtcbkmmkmffnfdaaSetJ
import Derived.Test.YtcbkmmkmffnfdaaSetK
import Derived.Test.YtcbkmmkmffnfdaaDiffer
import Derived.Test.YtcbkmmkmffnfdaaSetB
import Derived.Test.YtcbkmmkmffnfdaaRsA
/-
 euclid.window, euclid.highest: the highest 64 bits.
-/
namespace Go.Proofs.Ytcbkmmkmffnfdaa
open Go.RowKit Nt
set_option linter.unusedSimpArgs false
set_option linter.unusedVariables false

end Go.Proofs.Ytcbkmmkmffnfdaa

/-
 euclid.highest: the highest 64 bits of a, and those of b at the same places.
-/
namespace Go.Proofs.Ytcbkmmkmffnfdaa
open Go.RowKit Nt
set_option linter.unusedSimpArgs false
set_option linter.unusedVariables false

end Go.Proofs.Ytcbkmmkmffnfdaa
