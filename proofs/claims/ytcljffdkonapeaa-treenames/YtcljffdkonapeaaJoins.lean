/-
  Where two ways of the code meet: what is known there, and what comes behind, proved once.
-/
import Derived.Test.YtcljffdkonapeaaSetQ
namespace Go.Proofs.Ytcljffdkonapeaa
open Go Go.RowKit
set_option linter.unusedSimpArgs false
set_option linter.unusedVariables false
section
variable {P : Program} {Q : Exit → Act → World → Prop} {a : Act} {w : World}
end
section
variable {ops : Array Oper} {l : List Kd} {bx : Bxs} {sl : List (Tmp × Pr)} {i : Nat} {o : Oper} {Q : Exit → Act → World → Prop} {a0 : Act} {n : Nat} {w0 : World}
end
end Go.Proofs.Ytcljffdkonapeaa
