import Derived.Test.YtcbkmmkmffnfdaaRsA
import Derived.Test.YtcbkmmkmffnfdaaRsI
import Derived.Deep.RegionHeld3
import Derived.Test.YtcbkmmkmffnfdaaSetB
import Derived.Test.YtcbkmmkmffnfdaaSetJ
import Derived.Test.YtcbkmmkmffnfdaaSetK
import Derived.Deep.LoopGhost
/-
 euclid.Look: many steps at once.
-/
namespace Go.Proofs.Ytcbkmmkmffnfdaa
open Go.RowKit Nt
set_option linter.unusedSimpArgs false
set_option linter.unusedVariables false

end Go.Proofs.Ytcbkmmkmffnfdaa

/-
 euclid.Steps.Rests: the pair behind the steps.
-/
namespace Go.Proofs.Ytcbkmmkmffnfdaa
open Go.RowKit Nt
set_option linter.unusedSimpArgs false
set_option linter.unusedVariables false

end Go.Proofs.Ytcbkmmkmffnfdaa

/-
 nat.lower: on in the row of rests, by many places or by one.
-/
namespace Go.Proofs.Ytcbkmmkmffnfdaa
open Go.RowKit Nt
set_option linter.unusedSimpArgs false
set_option linter.unusedVariables false

end Go.Proofs.Ytcbkmmkmffnfdaa

/-
 nat.Gcd: many of Euclid's steps at once, the last ones with words.
-/
namespace Go.Proofs.Ytcbkmmkmffnfdaa
open Go.RowKit Nt
set_option linter.unusedSimpArgs false
set_option linter.unusedVariables false

end Go.Proofs.Ytcbkmmkmffnfdaa
