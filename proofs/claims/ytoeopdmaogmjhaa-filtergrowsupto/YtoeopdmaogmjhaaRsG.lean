import Derived.Test.YtoeopdmaogmjhaaRsD
import Derived.Test.YtoeopdmaogmjhaaRsF
/-
 Make of a numerator and a denominator by their names, of either sign; the denominators' product.
-/
namespace Go.Proofs.Ytoeopdmaogmjhaa
open Go.RowKit Nt
set_option linter.unusedSimpArgs false
set_option linter.unusedVariables false
set_option maxRecDepth 20000

/-- The numerator, once the denominator's sign is taken away. -/
def sw (t : Bool) (P : Int) : Int := if t then -P else P

end Go.Proofs.Ytoeopdmaogmjhaa

/-
 rat.Make and rat.lowest of a numerator and a denominator by their names.
-/
namespace Go.Proofs.Ytoeopdmaogmjhaa
open Go.RowKit Nt
set_option linter.unusedSimpArgs false
set_option linter.unusedVariables false
set_option maxRecDepth 20000

end Go.Proofs.Ytoeopdmaogmjhaa

/-
 rat.Mul and rat.Div.
-/
namespace Go.Proofs.Ytoeopdmaogmjhaa
open Go.RowKit Nt
set_option linter.unusedSimpArgs false
set_option linter.unusedVariables false
set_option maxRecDepth 20000

end Go.Proofs.Ytoeopdmaogmjhaa
