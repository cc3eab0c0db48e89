import Derived.Test.YtgalppimdmjdcaaGreatSetB
import Derived.Test.YtgalppimdmjdcaaGreatSetK
import Derived.Test.YtgalppimdmjdcaaGreatSetE
import Derived.Laws.Append
import Derived.Laws.IdiomStrings
import Derived.Test.YtgalppimdmjdcaaGreatSetW
import Derived.Test.YtgalppimdmjdcaaGreatRHalf
/-
  The text of 1.
-/
namespace Go.Proofs.YtgalppimdmjdcaaGreat
open Go.RowKit Nt
set_option linter.unusedSimpArgs false
set_option linter.unusedVariables false
set_option maxRecDepth 20000

end Go.Proofs.YtgalppimdmjdcaaGreat

/-
  The greatest divisor of 2 and 2; 2 by 2 in lowest terms; its text.
-/
namespace Go.Proofs.YtgalppimdmjdcaaGreat
open Go.RowKit Nt
set_option linter.unusedSimpArgs false
set_option linter.unusedVariables false
set_option maxRecDepth 20000

end Go.Proofs.YtgalppimdmjdcaaGreat

/-
  zint.Near, where the rest is a half or more.
-/
namespace Go.Proofs.YtgalppimdmjdcaaGreat
open Go.RowKit Nt
set_option linter.unusedSimpArgs false
set_option linter.unusedVariables false
set_option maxRecDepth 20000

end Go.Proofs.YtgalppimdmjdcaaGreat

/-
  2 by 2 in lowest terms is 1 by 1; its text.
-/
namespace Go.Proofs.YtgalppimdmjdcaaGreat
open Go.RowKit Nt
set_option linter.unusedSimpArgs false
set_option linter.unusedVariables false
set_option maxRecDepth 20000

end Go.Proofs.YtgalppimdmjdcaaGreat

/-
  What the law's awake calls.
-/
namespace Go.Proofs.YtgalppimdmjdcaaGreat
open Go.RowKit Nt
set_option linter.unusedSimpArgs false
set_option linter.unusedVariables false
set_option maxRecDepth 20000

end Go.Proofs.YtgalppimdmjdcaaGreat
