import Derived.Test.YtoeopdmaogmjhaaGsD
import Derived.Test.YtoeopdmaogmjhaaFiC
import Derived.Test.YtoeopdmaogmjhaaHxA
/-
 The document's frame of rows: each step of its rationals is a step of determinants.
-/
namespace Go.Proofs.Ytoeopdmaogmjhaa
open Go Go.RowKit Nt
set_option linter.unusedSimpArgs false
set_option linter.unusedVariables false
set_option maxRecDepth 20000

end Go.Proofs.Ytoeopdmaogmjhaa

/-
 The document's frame of rows: differences and quotients of rationals; its lists.
-/
namespace Go.Proofs.Ytoeopdmaogmjhaa
open Go Go.RowKit Nt
set_option linter.unusedSimpArgs false
set_option linter.unusedVariables false
set_option maxRecDepth 20000

end Go.Proofs.Ytoeopdmaogmjhaa

/-
 A rational by any quotient that it is, in whatever form: sums, differences, products, quotients by the document.
-/
namespace Go.Proofs.Ytoeopdmaogmjhaa
open Go Go.RowKit Nt
set_option linter.unusedSimpArgs false
set_option linter.unusedVariables false
set_option maxRecDepth 20000

end Go.Proofs.Ytoeopdmaogmjhaa
