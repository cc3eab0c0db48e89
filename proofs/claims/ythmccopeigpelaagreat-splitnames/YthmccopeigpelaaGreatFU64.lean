/-
 Words of 64 bits in the logic: rests, shifts, sums, comparisons; a list of two limbs.
-/
import Derived.Test.YthmccopeigpelaaGreatRsK
import Derived.Test.YthmccopeigpelaaGreatGsA
namespace Go.Proofs.YthmccopeigpelaaGreat
open Go Go.RowKit Nt
set_option linter.unusedSimpArgs false
set_option linter.unusedVariables false
set_option maxRecDepth 20000

section
variable {ops : Array Oper} {l : List Kd} {bx : Bxs} {sl : List (Tmp × Pr)} {i : Nat} {o : Oper} {Q : Exit → Act → World → Prop} {a0 : Act} {n : Nat} {w0 : World}
end
end Go.Proofs.YthmccopeigpelaaGreat
