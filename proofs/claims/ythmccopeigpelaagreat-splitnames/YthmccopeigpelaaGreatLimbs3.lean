/-
 Calls of three and four arguments; limbs of a number read one by one; bit operations of words.
-/
import Derived.Test.YthmccopeigpelaaGreatFU64
import Derived.Test.YthmccopeigpelaaGreatSetR
import Derived.Test.YthmccopeigpelaaGreatFExp2
import Derived.Test.YthmccopeigpelaaGreatSetU
namespace Go.Proofs.YthmccopeigpelaaGreat
open Go Go.RowKit Nt
set_option linter.unusedSimpArgs false
set_option linter.unusedVariables false
set_option maxRecDepth 20000

section
variable {ops : Array Oper} {l : List Kd} {bx : Bxs} {sl : List (Tmp × Pr)} {i : Nat} {o : Oper} {Q : Exit → Act → World → Prop} {a0 : Act} {n : Nat} {w0 : World}
end
end Go.Proofs.YthmccopeigpelaaGreat
