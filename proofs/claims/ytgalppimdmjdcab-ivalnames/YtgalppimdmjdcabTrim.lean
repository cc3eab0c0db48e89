/-
  nat.trim: the slice without the noughts at its end; the memory stays.
-/
import Derived.Test.YtgalppimdmjdcabBase
namespace Go.Proofs.Ytgalppimdmjdcab
open Go.RowKit Nt
set_option linter.unusedSimpArgs false
set_option linter.unusedVariables false

end Go.Proofs.Ytgalppimdmjdcab
