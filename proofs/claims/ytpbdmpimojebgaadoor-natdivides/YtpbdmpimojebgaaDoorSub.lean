/-
  nat.Sub.
-/
import Derived.Test.YtpbdmpimojebgaaDoorSubFrom
namespace Go.Proofs.YtpbdmpimojebgaaDoor
open Go.RowKit Nt
set_option linter.unusedSimpArgs false
set_option linter.unusedVariables false

end Go.Proofs.YtpbdmpimojebgaaDoor
