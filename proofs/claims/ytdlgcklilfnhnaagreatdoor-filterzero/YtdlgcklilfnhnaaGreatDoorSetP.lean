import Derived.Test.YtdlgcklilfnhnaaGreatDoorSetU
import Derived.Test.YtdlgcklilfnhnaaGreatDoorSetC
import Derived.Test.YtdlgcklilfnhnaaGreatDoorSetD
import Derived.Test.YtdlgcklilfnhnaaGreatDoorSetB
import Derived.Test.YtdlgcklilfnhnaaGreatDoorSetK
import Derived.Laws.AppendOwnNone
/-
  The document's own answers: Two, Shl, Shr.
-/
namespace Go.Proofs.YtdlgcklilfnhnaaGreatDoor
open Go.RowKit Nt
set_option linter.unusedSimpArgs false
set_option linter.unusedVariables false
set_option maxRecDepth 20000

end Go.Proofs.YtdlgcklilfnhnaaGreatDoor

/-
  The document's own answers: small.
-/
namespace Go.Proofs.YtdlgcklilfnhnaaGreatDoor
open Go.RowKit Nt
set_option linter.unusedSimpArgs false
set_option linter.unusedVariables false
set_option maxRecDepth 20000

end Go.Proofs.YtdlgcklilfnhnaaGreatDoor

/-
  The numbers behind the document's Div.
-/
namespace Go.Proofs.YtdlgcklilfnhnaaGreatDoor
open Go.RowKit Nt
set_option linter.unusedSimpArgs false
set_option linter.unusedVariables false
set_option maxRecDepth 20000

end Go.Proofs.YtdlgcklilfnhnaaGreatDoor

/-
  The document's own answer: Div, limb by limb from the top, each limb guessed and corrected downward.
-/
namespace Go.Proofs.YtdlgcklilfnhnaaGreatDoor
open Go.RowKit Nt
set_option linter.unusedSimpArgs false
set_option linter.unusedVariables false
set_option maxRecDepth 20000

end Go.Proofs.YtdlgcklilfnhnaaGreatDoor

/-
  The document's Div by two limbs and more.
-/
namespace Go.Proofs.YtdlgcklilfnhnaaGreatDoor
open Go.RowKit Nt
set_option linter.unusedSimpArgs false
set_option linter.unusedVariables false
set_option maxRecDepth 20000

end Go.Proofs.YtdlgcklilfnhnaaGreatDoor
