/-
  zint's products, and the document's: with the way through a statement that draws its order.
-/
import Derived.Test.YtejhbjcgacblfaaZFrame
import Derived.Test.YtejhbjcgacblfaaMul
import Derived.Test.YtejhbjcgacblfaaRefMul
namespace Go.Proofs.Ytejhbjcgacblfaa
open Go.RowKit Nt
set_option linter.unusedSimpArgs false
set_option linter.unusedVariables false

end Go.Proofs.Ytejhbjcgacblfaa
