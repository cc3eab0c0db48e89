import Derived.Test.YtcbkmmkmffnfdaaSetA
/-
 The small calls of package euclid: trim, limb.
-/
namespace Go.Proofs.Ytcbkmmkmffnfdaa
open Go.RowKit Nt
set_option linter.unusedSimpArgs false
set_option linter.unusedVariables false

end Go.Proofs.Ytcbkmmkmffnfdaa

/-
 nat.gcdWords: Euclid's rest by rest, of words.
-/
namespace Go.Proofs.Ytcbkmmkmffnfdaa
open Go.RowKit Nt
set_option linter.unusedSimpArgs false
set_option linter.unusedVariables false

end Go.Proofs.Ytcbkmmkmffnfdaa
