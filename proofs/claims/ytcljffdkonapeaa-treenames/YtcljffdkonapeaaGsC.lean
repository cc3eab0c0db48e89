import Derived.Test.YtcljffdkonapeaaGsB
import Derived.Test.YtcljffdkonapeaaSetH
import Derived.Test.YtcljffdkonapeaaGsA
/-
  gso.framed, where it is well.
-/
namespace Go.Proofs.Ytcljffdkonapeaa
open Go Go.RowKit Nt
set_option linter.unusedSimpArgs false
set_option linter.unusedVariables false


end Go.Proofs.Ytcljffdkonapeaa

/-
  gso.Wide.
-/
namespace Go.Proofs.Ytcljffdkonapeaa
open Go Go.RowKit Nt
set_option linter.unusedSimpArgs false
set_option linter.unusedVariables false


theorem one_dl : (digs (1 : Int).natAbs).length ≤ 1 := digs_length_le (by decide)
section
variable {ops : Array Oper} {l : List Kd} {bx : Bxs} {sl : List (Tmp × Pr)} {i : Nat} {o : Oper} {Q : Exit → Act → World → Prop} {a0 : Act} {n : Nat} {w0 : World}
end
end Go.Proofs.Ytcljffdkonapeaa
