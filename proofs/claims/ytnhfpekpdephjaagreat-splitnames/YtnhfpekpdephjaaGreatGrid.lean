/-
 Blocks of the call's own that no slot leads to: the cells of a matrix whose rows lie in one block.
-/
import Derived.Test.YtnhfpekpdephjaaGreatSetR
namespace Go.Proofs.YtnhfpekpdephjaaGreat
open Go Go.RowKit Nt
set_option linter.unusedSimpArgs false
set_option linter.unusedVariables false
set_option maxRecDepth 20000

section
variable {ops : Array Oper} {l : List Kd} {bx : Bxs} {sl : List (Tmp × Pr)} {i : Nat} {o : Oper} {Q : Exit → Act → World → Prop} {a0 : Act} {n0 : Nat} {w0 : World}
end
section
variable {ops : Array Oper} {l : List Kd} {bx : Bxs} {sl : List (Tmp × Pr)} {i : Nat} {o : Oper} {Q : Exit → Act → World → Prop} {a0 : Act} {n0 : Nat} {w0 : World}
end
end Go.Proofs.YtnhfpekpdephjaaGreat
