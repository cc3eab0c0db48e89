import Derived.Test.YtpfdkplmjhablaaGreatDoorFiC
import Derived.Test.YtpfdkplmjhablaaGreatDoorDtA
import Derived.Test.YtpfdkplmjhablaaGreatDoorGsD
import Derived.Test.YtpfdkplmjhablaaGreatDoorMkB
/-
 The norm of data of rows is the squared length of the vector.
-/
namespace Go.Proofs.YtpfdkplmjhablaaGreatDoor
open Go Go.RowKit Nt
set_option linter.unusedSimpArgs false
set_option linter.unusedVariables false
set_option maxRecDepth 20000

end Go.Proofs.YtpfdkplmjhablaaGreatDoor

/-
 A sum of rows by a list of numbers, and its squared length.
-/
namespace Go.Proofs.YtpfdkplmjhablaaGreatDoor
open Go Go.RowKit Nt
set_option linter.unusedSimpArgs false
set_option linter.unusedVariables false
set_option maxRecDepth 20000

end Go.Proofs.YtpfdkplmjhablaaGreatDoor
