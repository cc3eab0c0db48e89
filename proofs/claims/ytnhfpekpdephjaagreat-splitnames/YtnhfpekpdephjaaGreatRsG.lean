import Derived.Test.YtnhfpekpdephjaaGreatRsD
import Derived.Test.YtnhfpekpdephjaaGreatRsF
/-
 Make of a numerator and a denominator by their names, of either sign; the denominators' product.
-/
namespace Go.Proofs.YtnhfpekpdephjaaGreat
open Go.RowKit Nt
set_option linter.unusedSimpArgs false
set_option linter.unusedVariables false
set_option maxRecDepth 20000

end Go.Proofs.YtnhfpekpdephjaaGreat

/-
 rat.Make and rat.lowest of a numerator and a denominator by their names.
-/
namespace Go.Proofs.YtnhfpekpdephjaaGreat
open Go.RowKit Nt
set_option linter.unusedSimpArgs false
set_option linter.unusedVariables false
set_option maxRecDepth 20000

end Go.Proofs.YtnhfpekpdephjaaGreat

/-
 rat.Mul and rat.Div.
-/
namespace Go.Proofs.YtnhfpekpdephjaaGreat
open Go.RowKit Nt
set_option linter.unusedSimpArgs false
set_option linter.unusedVariables false
set_option maxRecDepth 20000

end Go.Proofs.YtnhfpekpdephjaaGreat

/-
 The document's product and quotient of two rationals that may be.
-/
namespace Go.Proofs.YtnhfpekpdephjaaGreat
open Go.RowKit Nt
set_option linter.unusedSimpArgs false
set_option linter.unusedVariables false
set_option maxRecDepth 20000

end Go.Proofs.YtnhfpekpdephjaaGreat
