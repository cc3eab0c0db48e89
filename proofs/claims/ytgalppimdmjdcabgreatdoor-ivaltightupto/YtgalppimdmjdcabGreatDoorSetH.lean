import Derived.Test.YtgalppimdmjdcabGreatDoorSetB
import Derived.Test.YtgalppimdmjdcabGreatDoorSetK
import Derived.Test.YtgalppimdmjdcabGreatDoorSetE
import Derived.Laws.Append
import Derived.Laws.IdiomStrings
import Derived.Test.YtgalppimdmjdcabGreatDoorSetW
import Derived.Test.YtgalppimdmjdcabGreatDoorRHalf
/-
  The text of 1.
-/
namespace Go.Proofs.YtgalppimdmjdcabGreatDoor
open Go.RowKit Nt
set_option linter.unusedSimpArgs false
set_option linter.unusedVariables false
set_option maxRecDepth 20000

end Go.Proofs.YtgalppimdmjdcabGreatDoor

/-
  The greatest divisor of 2 and 2; 2 by 2 in lowest terms; its text.
-/
namespace Go.Proofs.YtgalppimdmjdcabGreatDoor
open Go.RowKit Nt
set_option linter.unusedSimpArgs false
set_option linter.unusedVariables false
set_option maxRecDepth 20000

end Go.Proofs.YtgalppimdmjdcabGreatDoor

/-
  zint.Near, where the rest is a half or more.
-/
namespace Go.Proofs.YtgalppimdmjdcabGreatDoor
open Go.RowKit Nt
set_option linter.unusedSimpArgs false
set_option linter.unusedVariables false
set_option maxRecDepth 20000

end Go.Proofs.YtgalppimdmjdcabGreatDoor

/-
  2 by 2 in lowest terms is 1 by 1; its text.
-/
namespace Go.Proofs.YtgalppimdmjdcabGreatDoor
open Go.RowKit Nt
set_option linter.unusedSimpArgs false
set_option linter.unusedVariables false
set_option maxRecDepth 20000

end Go.Proofs.YtgalppimdmjdcabGreatDoor

/-
  What the law's awake calls.
-/
namespace Go.Proofs.YtgalppimdmjdcabGreatDoor
open Go.RowKit Nt
set_option linter.unusedSimpArgs false
set_option linter.unusedVariables false
set_option maxRecDepth 20000

end Go.Proofs.YtgalppimdmjdcabGreatDoor
