import Derived.Test.YtpfdkplmjhablaaGreatDoorSetU
import Derived.Test.YtpfdkplmjhablaaGreatDoorSetC
import Derived.Test.YtpfdkplmjhablaaGreatDoorSetD
import Derived.Test.YtpfdkplmjhablaaGreatDoorSetB
import Derived.Test.YtpfdkplmjhablaaGreatDoorSetK
import Derived.Laws.AppendOwnNone
/-
 The document's own answers: Two, Shl, Shr.
-/
namespace Go.Proofs.YtpfdkplmjhablaaGreatDoor
open Go.RowKit Nt
set_option linter.unusedSimpArgs false
set_option linter.unusedVariables false
set_option maxRecDepth 20000

end Go.Proofs.YtpfdkplmjhablaaGreatDoor

/-
 The document's own answers: small.
-/
namespace Go.Proofs.YtpfdkplmjhablaaGreatDoor
open Go.RowKit Nt
set_option linter.unusedSimpArgs false
set_option linter.unusedVariables false
set_option maxRecDepth 20000

end Go.Proofs.YtpfdkplmjhablaaGreatDoor

/-
 The numbers behind the document's Div.
-/
namespace Go.Proofs.YtpfdkplmjhablaaGreatDoor
open Go.RowKit Nt
set_option linter.unusedSimpArgs false
set_option linter.unusedVariables false
set_option maxRecDepth 20000

end Go.Proofs.YtpfdkplmjhablaaGreatDoor

/-
 The document's own answer: Div, limb by limb from the top, each limb guessed and corrected downward.
-/
namespace Go.Proofs.YtpfdkplmjhablaaGreatDoor
open Go.RowKit Nt
set_option linter.unusedSimpArgs false
set_option linter.unusedVariables false
set_option maxRecDepth 20000

end Go.Proofs.YtpfdkplmjhablaaGreatDoor

/-
 The document's Div by two limbs and more.
-/
namespace Go.Proofs.YtpfdkplmjhablaaGreatDoor
open Go.RowKit Nt
set_option linter.unusedSimpArgs false
set_option linter.unusedVariables false
set_option maxRecDepth 20000

end Go.Proofs.YtpfdkplmjhablaaGreatDoor
