import Derived.Test.YtcbkmmkmffnfdaaGsB
import Derived.Test.YtcbkmmkmffnfdaaDtA
import Derived.Test.YtcbkmmkmffnfdaaGlA
import Derived.Test.YtcbkmmkmffnfdaaGsD
/-
 The data of rows are determinants: all divisions come out even, and no number is longer than those.
-/
namespace Go.Proofs.Ytcbkmmkmffnfdaa
open Go Go.RowKit Nt
set_option linter.unusedSimpArgs false
set_option linter.unusedVariables false

/-- The dot products of the rows. -/
def gr (Bm : List (List Int)) : Nat → Nat → Int := fun r c => dotR (Bm.getD r []) (Bm.getD c [])
section
variable {G : Dt.Mt} {D L M : List Int} {i j K : Nat}
end
end Go.Proofs.Ytcbkmmkmffnfdaa

/-
 gso.framed, where it is not well.
-/
namespace Go.Proofs.Ytcbkmmkmffnfdaa
open Go Go.RowKit Nt
set_option linter.unusedSimpArgs false
set_option linter.unusedVariables false


end Go.Proofs.Ytcbkmmkmffnfdaa

/-
 gso.Wide, gso.Of, gso.Valid, where it is not well; gso.Valid where it is.
-/
namespace Go.Proofs.Ytcbkmmkmffnfdaa
open Go Go.RowKit Nt
set_option linter.unusedSimpArgs false
set_option linter.unusedVariables false

end Go.Proofs.Ytcbkmmkmffnfdaa

/-
 gso.Of of every matrix: an error that is not 0, or the data of its rows.
-/
namespace Go.Proofs.Ytcbkmmkmffnfdaa
open Go Go.RowKit Nt
set_option linter.unusedSimpArgs false
set_option linter.unusedVariables false

end Go.Proofs.Ytcbkmmkmffnfdaa
