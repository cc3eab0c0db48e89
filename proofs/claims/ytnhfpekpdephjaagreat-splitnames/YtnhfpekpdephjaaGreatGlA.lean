import Derived.Test.YtnhfpekpdephjaaGreatSetH
import Derived.Test.YtnhfpekpdephjaaGreatSetD
import Derived.Test.YtnhfpekpdephjaaGreatGsB
import Derived.Test.YtnhfpekpdephjaaGreatSetV
/-
 Bits: mat's and the document's.
-/
namespace Go.Proofs.YtnhfpekpdephjaaGreat
open Go Go.RowKit Nt
set_option linter.unusedSimpArgs false
set_option linter.unusedVariables false
set_option maxRecDepth 20000


section
variable {ops : Array Oper} {l : List Kd} {bx : Bxs} {sl : List (Tmp × Pr)} {i : Nat} {o : Oper} {Q : Exit → Act → World → Prop} {a0 : Act} {n : Nat} {w0 : World}
end
end Go.Proofs.YtnhfpekpdephjaaGreat

/-
 gso.Of, gso.Valid; the law's awake; GsoNames' walk.
-/
namespace Go.Proofs.YtnhfpekpdephjaaGreat
open Go Go.RowKit Nt
set_option linter.unusedSimpArgs false
set_option linter.unusedVariables false
set_option maxRecDepth 20000


end Go.Proofs.YtnhfpekpdephjaaGreat
