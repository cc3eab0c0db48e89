import Derived.Test.YtgalppimdmjdcabGreatSetB
import Derived.Test.YtgalppimdmjdcabGreatSetK
import Derived.Test.YtgalppimdmjdcabGreatSetE
import Derived.Laws.Append
import Derived.Laws.IdiomStrings
import Derived.Test.YtgalppimdmjdcabGreatSetW
import Derived.Test.YtgalppimdmjdcabGreatRHalf
/-
  The text of 1.
-/
namespace Go.Proofs.YtgalppimdmjdcabGreat
open Go.RowKit Nt
set_option linter.unusedSimpArgs false
set_option linter.unusedVariables false
set_option maxRecDepth 20000

end Go.Proofs.YtgalppimdmjdcabGreat

/-
  The greatest divisor of 2 and 2; 2 by 2 in lowest terms; its text.
-/
namespace Go.Proofs.YtgalppimdmjdcabGreat
open Go.RowKit Nt
set_option linter.unusedSimpArgs false
set_option linter.unusedVariables false
set_option maxRecDepth 20000

end Go.Proofs.YtgalppimdmjdcabGreat

/-
  zint.Near, where the rest is a half or more.
-/
namespace Go.Proofs.YtgalppimdmjdcabGreat
open Go.RowKit Nt
set_option linter.unusedSimpArgs false
set_option linter.unusedVariables false
set_option maxRecDepth 20000

end Go.Proofs.YtgalppimdmjdcabGreat

/-
  2 by 2 in lowest terms is 1 by 1; its text.
-/
namespace Go.Proofs.YtgalppimdmjdcabGreat
open Go.RowKit Nt
set_option linter.unusedSimpArgs false
set_option linter.unusedVariables false
set_option maxRecDepth 20000

end Go.Proofs.YtgalppimdmjdcabGreat

/-
  What the law's awake calls.
-/
namespace Go.Proofs.YtgalppimdmjdcabGreat
open Go.RowKit Nt
set_option linter.unusedSimpArgs false
set_option linter.unusedVariables false
set_option maxRecDepth 20000

end Go.Proofs.YtgalppimdmjdcabGreat
