import Derived.Test.YtcljffdkonapeaaSetH
import Derived.Test.YtcljffdkonapeaaBits
import Derived.Test.YtcljffdkonapeaaGsB
import Derived.Test.YtcljffdkonapeaaSetV
/-
  Bits: mat's and the document's.
-/
namespace Go.Proofs.Ytcljffdkonapeaa
open Go Go.RowKit Nt
set_option linter.unusedSimpArgs false
set_option linter.unusedVariables false


section
variable {ops : Array Oper} {l : List Kd} {bx : Bxs} {sl : List (Tmp × Pr)} {i : Nat} {o : Oper} {Q : Exit → Act → World → Prop} {a0 : Act} {n : Nat} {w0 : World}
end
end Go.Proofs.Ytcljffdkonapeaa

/-
  gso.Of, gso.Valid; the law's awake; GsoNames' walk.
-/
namespace Go.Proofs.Ytcljffdkonapeaa
open Go Go.RowKit Nt
set_option linter.unusedSimpArgs false
set_option linter.unusedVariables false


end Go.Proofs.Ytcljffdkonapeaa
