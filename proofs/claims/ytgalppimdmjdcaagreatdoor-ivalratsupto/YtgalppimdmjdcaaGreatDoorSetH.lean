import Derived.Test.YtgalppimdmjdcaaGreatDoorSetB
import Derived.Test.YtgalppimdmjdcaaGreatDoorSetK
import Derived.Test.YtgalppimdmjdcaaGreatDoorSetE
import Derived.Laws.Append
import Derived.Laws.IdiomStrings
import Derived.Test.YtgalppimdmjdcaaGreatDoorSetW
import Derived.Test.YtgalppimdmjdcaaGreatDoorRHalf
/-
  The text of 1.
-/
namespace Go.Proofs.YtgalppimdmjdcaaGreatDoor
open Go.RowKit Nt
set_option linter.unusedSimpArgs false
set_option linter.unusedVariables false
set_option maxRecDepth 20000

end Go.Proofs.YtgalppimdmjdcaaGreatDoor

/-
  The greatest divisor of 2 and 2; 2 by 2 in lowest terms; its text.
-/
namespace Go.Proofs.YtgalppimdmjdcaaGreatDoor
open Go.RowKit Nt
set_option linter.unusedSimpArgs false
set_option linter.unusedVariables false
set_option maxRecDepth 20000

end Go.Proofs.YtgalppimdmjdcaaGreatDoor

/-
  zint.Near, where the rest is a half or more.
-/
namespace Go.Proofs.YtgalppimdmjdcaaGreatDoor
open Go.RowKit Nt
set_option linter.unusedSimpArgs false
set_option linter.unusedVariables false
set_option maxRecDepth 20000

end Go.Proofs.YtgalppimdmjdcaaGreatDoor

/-
  2 by 2 in lowest terms is 1 by 1; its text.
-/
namespace Go.Proofs.YtgalppimdmjdcaaGreatDoor
open Go.RowKit Nt
set_option linter.unusedSimpArgs false
set_option linter.unusedVariables false
set_option maxRecDepth 20000

end Go.Proofs.YtgalppimdmjdcaaGreatDoor

/-
  What the law's awake calls.
-/
namespace Go.Proofs.YtgalppimdmjdcaaGreatDoor
open Go.RowKit Nt
set_option linter.unusedSimpArgs false
set_option linter.unusedVariables false
set_option maxRecDepth 20000

end Go.Proofs.YtgalppimdmjdcaaGreatDoor
