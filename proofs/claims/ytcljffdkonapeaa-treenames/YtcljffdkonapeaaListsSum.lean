/-
  Lists of numbers by their signs and limbs: rows that begin as nil, rows that are read; zint.Sum.
-/
import Derived.Test.YtcljffdkonapeaaSetF
import Derived.Test.YtcljffdkonapeaaSetY
namespace Go.Proofs.Ytcljffdkonapeaa
open Go Go.RowKit Nt
set_option linter.unusedSimpArgs false
set_option linter.unusedVariables false

end Go.Proofs.Ytcljffdkonapeaa
