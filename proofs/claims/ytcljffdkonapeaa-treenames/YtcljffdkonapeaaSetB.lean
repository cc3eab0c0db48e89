import Derived.Test.YtcljffdkonapeaaSetA
import Derived.Test.YtcljffdkonapeaaSetK
import Derived.Test.YtcljffdkonapeaaBits
import Derived.Test.YtcljffdkonapeaaSetU
/-
  nat.divSmall: by one limb, in place.
-/
namespace Go.Proofs.Ytcljffdkonapeaa
open Go.RowKit Nt
set_option linter.unusedSimpArgs false
set_option linter.unusedVariables false

end Go.Proofs.Ytcljffdkonapeaa

/-
  nat.takeTimes: a multiple taken off in place, round the end.
-/
namespace Go.Proofs.Ytcljffdkonapeaa
open Go.RowKit Nt
set_option linter.unusedSimpArgs false
set_option linter.unusedVariables false

end Go.Proofs.Ytcljffdkonapeaa

/-
  nat.guess: the digit, or one more: the mathematics.
-/
namespace Go.Proofs.Ytcljffdkonapeaa
open Go.RowKit Nt
set_option linter.unusedSimpArgs false
set_option linter.unusedVariables false

end Go.Proofs.Ytcljffdkonapeaa

/-
  nat.guess.
-/
namespace Go.Proofs.Ytcljffdkonapeaa
open Go.RowKit Nt
set_option linter.unusedSimpArgs false
set_option linter.unusedVariables false

end Go.Proofs.Ytcljffdkonapeaa

/-
  nat.digit: one limb of a quotient; what is left stays in place.
-/
namespace Go.Proofs.Ytcljffdkonapeaa
open Go.RowKit Nt
set_option linter.unusedSimpArgs false
set_option linter.unusedVariables false

end Go.Proofs.Ytcljffdkonapeaa

/-
  The mathematics of a long division.
-/
namespace Go.Proofs.Ytcljffdkonapeaa
open Go.RowKit Nt
set_option linter.unusedSimpArgs false
set_option linter.unusedVariables false

end Go.Proofs.Ytcljffdkonapeaa

/-
  nat.divLong: the long division.
-/
namespace Go.Proofs.Ytcljffdkonapeaa
open Go.RowKit Nt
set_option linter.unusedSimpArgs false
set_option linter.unusedVariables false

theorem Res.in {w w' : World} {r : Option Addr} {c n : Nat} (k : Res w w' r c n) : ∀ b o, r = some ⟨b, o, none⟩ → b < w'.heap.size := fun b o e => by
  obtain ⟨_, _, rest, h, _⟩ := k.own b o e
  exact h.size

end Go.Proofs.Ytcljffdkonapeaa

/-
  nat.Div.
-/
namespace Go.Proofs.Ytcljffdkonapeaa
open Go.RowKit Nt
set_option linter.unusedSimpArgs false
set_option linter.unusedVariables false

end Go.Proofs.Ytcljffdkonapeaa
