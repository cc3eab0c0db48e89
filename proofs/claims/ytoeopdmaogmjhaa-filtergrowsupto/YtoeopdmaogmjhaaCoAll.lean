/-
 The program's Coords and the document's, of every matrix and every row: one error, or one answer.
-/
import Derived.Test.YtoeopdmaogmjhaaCoProg
import Derived.Test.YtoeopdmaogmjhaaCoDoc
import Derived.Test.YtoeopdmaogmjhaaVaAll
import Derived.Test.YtoeopdmaogmjhaaMkD
namespace Go.Proofs.Ytoeopdmaogmjhaa
open Go Go.RowKit Nt
set_option linter.unusedSimpArgs false
set_option linter.unusedVariables false
set_option maxRecDepth 20000

section
variable {n m Kb K : Nat} {Bm : List (List Int)} {ts : List (Int × Int)}
end
end Go.Proofs.Ytoeopdmaogmjhaa
