import Derived.Test.YtcbkmmkmffnfdaaSetH
import Derived.Test.YtcbkmmkmffnfdaaSetD
import Derived.Test.YtcbkmmkmffnfdaaGsB
import Derived.Test.YtcbkmmkmffnfdaaSetV
/-
 Bits: mat's and the document's.
-/
namespace Go.Proofs.Ytcbkmmkmffnfdaa
open Go Go.RowKit Nt
set_option linter.unusedSimpArgs false
set_option linter.unusedVariables false


section
variable {ops : Array Oper} {l : List Kd} {bx : Bxs} {sl : List (Tmp × Pr)} {i : Nat} {o : Oper} {Q : Exit → Act → World → Prop} {a0 : Act} {n : Nat} {w0 : World}
end
end Go.Proofs.Ytcbkmmkmffnfdaa

/-
 gso.Of, gso.Valid; the law's awake; GsoNames' walk.
-/
namespace Go.Proofs.Ytcbkmmkmffnfdaa
open Go Go.RowKit Nt
set_option linter.unusedSimpArgs false
set_option linter.unusedVariables false


/-- The two rows of the law. -/
abbrev SQ : List (List Int) := [[1, 1], [0, 2]]
end Go.Proofs.Ytcbkmmkmffnfdaa
