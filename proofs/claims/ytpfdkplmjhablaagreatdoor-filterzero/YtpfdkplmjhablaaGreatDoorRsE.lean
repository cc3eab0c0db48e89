import Derived.Test.YtpfdkplmjhablaaGreatDoorSetB
import Derived.Test.YtpfdkplmjhablaaGreatDoorSetK
import Derived.Test.YtpfdkplmjhablaaGreatDoorSetE
import Derived.Laws.Append
import Derived.Laws.IdiomStrings
import Derived.Test.YtpfdkplmjhablaaGreatDoorRsF
import Derived.Test.YtpfdkplmjhablaaGreatDoorRsJ
/-
 The text of 1.
-/
namespace Go.Proofs.YtpfdkplmjhablaaGreatDoor
open Go.RowKit Nt
set_option linter.unusedSimpArgs false
set_option linter.unusedVariables false
set_option maxRecDepth 20000

end Go.Proofs.YtpfdkplmjhablaaGreatDoor

/-
 The greatest divisor of 2 and 2; 2 by 2 in lowest terms; its text.
-/
namespace Go.Proofs.YtpfdkplmjhablaaGreatDoor
open Go.RowKit Nt
set_option linter.unusedSimpArgs false
set_option linter.unusedVariables false
set_option maxRecDepth 20000

end Go.Proofs.YtpfdkplmjhablaaGreatDoor

/-
 zint.Near, where the rest is a half or more.
-/
namespace Go.Proofs.YtpfdkplmjhablaaGreatDoor
open Go.RowKit Nt
set_option linter.unusedSimpArgs false
set_option linter.unusedVariables false
set_option maxRecDepth 20000

end Go.Proofs.YtpfdkplmjhablaaGreatDoor

/-
 2 by 2 in lowest terms is 1 by 1; its text.
-/
namespace Go.Proofs.YtpfdkplmjhablaaGreatDoor
open Go.RowKit Nt
set_option linter.unusedSimpArgs false
set_option linter.unusedVariables false
set_option maxRecDepth 20000

end Go.Proofs.YtpfdkplmjhablaaGreatDoor

/-
 What the law's awake calls.
-/
namespace Go.Proofs.YtpfdkplmjhablaaGreatDoor
open Go.RowKit Nt
set_option linter.unusedSimpArgs false
set_option linter.unusedVariables false
set_option maxRecDepth 20000

end Go.Proofs.YtpfdkplmjhablaaGreatDoor
