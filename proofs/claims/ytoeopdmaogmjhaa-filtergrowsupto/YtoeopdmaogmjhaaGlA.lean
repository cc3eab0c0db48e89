import Derived.Test.YtoeopdmaogmjhaaSetH
import Derived.Test.YtoeopdmaogmjhaaSetD
import Derived.Test.YtoeopdmaogmjhaaGsB
import Derived.Test.YtoeopdmaogmjhaaSetV
/-
 Bits: mat's and the document's.
-/
namespace Go.Proofs.Ytoeopdmaogmjhaa
open Go Go.RowKit Nt
set_option linter.unusedSimpArgs false
set_option linter.unusedVariables false
set_option maxRecDepth 20000


section
variable {ops : Array Oper} {l : List Kd} {bx : Bxs} {sl : List (Tmp × Pr)} {i : Nat} {o : Oper} {Q : Exit → Act → World → Prop} {a0 : Act} {n : Nat} {w0 : World}
end
end Go.Proofs.Ytoeopdmaogmjhaa

/-
 gso.Of, gso.Valid; the law's awake; GsoNames' walk.
-/
namespace Go.Proofs.Ytoeopdmaogmjhaa
open Go Go.RowKit Nt
set_option linter.unusedSimpArgs false
set_option linter.unusedVariables false
set_option maxRecDepth 20000


theorem dl1 {z : Int} (h : z.natAbs < 4294967296) : (digs z.natAbs).length ≤ 1 := digs_length_le (by simpa using h)
end Go.Proofs.Ytoeopdmaogmjhaa
