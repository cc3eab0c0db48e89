import Derived.Test.YtcbkmmkmffnfdaaRsC
import Derived.Test.YtcbkmmkmffnfdaaSetI
import Derived.Test.YtcbkmmkmffnfdaaSetE
import Derived.Test.YtcbkmmkmffnfdaaRsB
import Derived.Deep.RegionHeld3
/-
 The document's Make, of a denominator below 0.
-/
namespace Go.Proofs.Ytcbkmmkmffnfdaa
open Go.RowKit Nt
set_option linter.unusedSimpArgs false
set_option linter.unusedVariables false

end Go.Proofs.Ytcbkmmkmffnfdaa

/-
 zint.Exact, where nothing is left; zint.Near.
-/
namespace Go.Proofs.Ytcbkmmkmffnfdaa
open Go.RowKit Nt
set_option linter.unusedSimpArgs false
set_option linter.unusedVariables false

end Go.Proofs.Ytcbkmmkmffnfdaa

/-
 zint.Gcd, whole; rat.lowest, whole.
-/
namespace Go.Proofs.Ytcbkmmkmffnfdaa
open Go.RowKit Nt
set_option linter.unusedSimpArgs false
set_option linter.unusedVariables false

end Go.Proofs.Ytcbkmmkmffnfdaa

/-
 rat.Make.
-/
namespace Go.Proofs.Ytcbkmmkmffnfdaa
open Go.RowKit Nt
set_option linter.unusedSimpArgs false
set_option linter.unusedVariables false

end Go.Proofs.Ytcbkmmkmffnfdaa
