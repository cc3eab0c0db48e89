import Derived.Test.YtdlgcklilfnhnaaGreatDoorSetB
import Derived.Test.YtdlgcklilfnhnaaGreatDoorSetK
import Derived.Test.YtdlgcklilfnhnaaGreatDoorSetE
import Derived.Laws.Append
import Derived.Laws.IdiomStrings
import Derived.Test.YtdlgcklilfnhnaaGreatDoorRsF
import Derived.Test.YtdlgcklilfnhnaaGreatDoorRsJ
/-
  The text of 1.
-/
namespace Go.Proofs.YtdlgcklilfnhnaaGreatDoor
open Go.RowKit Nt
set_option linter.unusedSimpArgs false
set_option linter.unusedVariables false
set_option maxRecDepth 20000

end Go.Proofs.YtdlgcklilfnhnaaGreatDoor

/-
  The greatest divisor of 2 and 2; 2 by 2 in lowest terms; its text.
-/
namespace Go.Proofs.YtdlgcklilfnhnaaGreatDoor
open Go.RowKit Nt
set_option linter.unusedSimpArgs false
set_option linter.unusedVariables false
set_option maxRecDepth 20000

end Go.Proofs.YtdlgcklilfnhnaaGreatDoor

/-
  zint.Near, where the rest is a half or more.
-/
namespace Go.Proofs.YtdlgcklilfnhnaaGreatDoor
open Go.RowKit Nt
set_option linter.unusedSimpArgs false
set_option linter.unusedVariables false
set_option maxRecDepth 20000

end Go.Proofs.YtdlgcklilfnhnaaGreatDoor

/-
  2 by 2 in lowest terms is 1 by 1; its text.
-/
namespace Go.Proofs.YtdlgcklilfnhnaaGreatDoor
open Go.RowKit Nt
set_option linter.unusedSimpArgs false
set_option linter.unusedVariables false
set_option maxRecDepth 20000

end Go.Proofs.YtdlgcklilfnhnaaGreatDoor

/-
  What the law's awake calls.
-/
namespace Go.Proofs.YtdlgcklilfnhnaaGreatDoor
open Go.RowKit Nt
set_option linter.unusedSimpArgs false
set_option linter.unusedVariables false
set_option maxRecDepth 20000

end Go.Proofs.YtdlgcklilfnhnaaGreatDoor
