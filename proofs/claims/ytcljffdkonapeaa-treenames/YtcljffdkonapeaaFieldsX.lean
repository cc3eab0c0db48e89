/-
  Rows known by their handles that grow; structs of lists of rationals.
-/
import Derived.Test.YtcljffdkonapeaaQArr
import Derived.Test.YtcljffdkonapeaaFieldsW
namespace Go.Proofs.Ytcljffdkonapeaa
open Go Go.RowKit Nt
set_option linter.unusedSimpArgs false
set_option linter.unusedVariables false

section
variable {ops : Array Oper} {l : List Kd} {bx : Bxs} {sl : List (Tmp × Pr)} {i : Nat} {o : Oper} {Q : Exit → Act → World → Prop} {a0 : Act} {n0 : Nat} {w0 : World}
end
theorem load1_qvec : Load1 28 := fun ρ w o x b f u hx hc => by
  unfold execOp
  go_simp
end Go.Proofs.Ytcljffdkonapeaa
