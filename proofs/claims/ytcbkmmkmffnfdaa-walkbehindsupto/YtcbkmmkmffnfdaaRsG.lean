import Derived.Test.YtcbkmmkmffnfdaaRsD
import Derived.Test.YtcbkmmkmffnfdaaRsF
/-
 Make of a numerator and a denominator by their names, of either sign; the denominators' product.
-/
namespace Go.Proofs.Ytcbkmmkmffnfdaa
open Go.RowKit Nt
set_option linter.unusedSimpArgs false
set_option linter.unusedVariables false

/-- The numerator, once the denominator's sign is taken away. -/
def sw (t : Bool) (P : Int) : Int := if t then -P else P

end Go.Proofs.Ytcbkmmkmffnfdaa

/-
 rat.Make and rat.lowest of a numerator and a denominator by their names.
-/
namespace Go.Proofs.Ytcbkmmkmffnfdaa
open Go.RowKit Nt
set_option linter.unusedSimpArgs false
set_option linter.unusedVariables false

end Go.Proofs.Ytcbkmmkmffnfdaa

/-
 rat.Mul and rat.Div.
-/
namespace Go.Proofs.Ytcbkmmkmffnfdaa
open Go.RowKit Nt
set_option linter.unusedSimpArgs false
set_option linter.unusedVariables false

end Go.Proofs.Ytcbkmmkmffnfdaa
