import Derived.Test.YtnhfpekpdephjaaGreatSetA
import Derived.Test.YtnhfpekpdephjaaGreatSetK
import Derived.Test.YtnhfpekpdephjaaGreatSetD
import Derived.Test.YtnhfpekpdephjaaGreatSetU
/-
 nat.divSmall: by one limb, in place.
-/
namespace Go.Proofs.YtnhfpekpdephjaaGreat
open Go.RowKit Nt
set_option linter.unusedSimpArgs false
set_option linter.unusedVariables false
set_option maxRecDepth 20000

end Go.Proofs.YtnhfpekpdephjaaGreat

/-
 nat.takeTimes: a multiple taken off in place, round the end.
-/
namespace Go.Proofs.YtnhfpekpdephjaaGreat
open Go.RowKit Nt
set_option linter.unusedSimpArgs false
set_option linter.unusedVariables false
set_option maxRecDepth 20000

end Go.Proofs.YtnhfpekpdephjaaGreat

/-
 nat.guess: the digit, or one more: the mathematics.
-/
namespace Go.Proofs.YtnhfpekpdephjaaGreat
open Go.RowKit Nt
set_option linter.unusedSimpArgs false
set_option linter.unusedVariables false
set_option maxRecDepth 20000

end Go.Proofs.YtnhfpekpdephjaaGreat

/-
 nat.guess.
-/
namespace Go.Proofs.YtnhfpekpdephjaaGreat
open Go.RowKit Nt
set_option linter.unusedSimpArgs false
set_option linter.unusedVariables false
set_option maxRecDepth 20000

end Go.Proofs.YtnhfpekpdephjaaGreat

/-
 nat.digit: one limb of a quotient; what is left stays in place.
-/
namespace Go.Proofs.YtnhfpekpdephjaaGreat
open Go.RowKit Nt
set_option linter.unusedSimpArgs false
set_option linter.unusedVariables false
set_option maxRecDepth 20000

end Go.Proofs.YtnhfpekpdephjaaGreat

/-
 The mathematics of a long division.
-/
namespace Go.Proofs.YtnhfpekpdephjaaGreat
open Go.RowKit Nt
set_option linter.unusedSimpArgs false
set_option linter.unusedVariables false
set_option maxRecDepth 20000

end Go.Proofs.YtnhfpekpdephjaaGreat

/-
 nat.divLong: the long division.
-/
namespace Go.Proofs.YtnhfpekpdephjaaGreat
open Go.RowKit Nt
set_option linter.unusedSimpArgs false
set_option linter.unusedVariables false
set_option maxRecDepth 20000

theorem Res.in {w w' : World} {r : Option Addr} {c n : Nat} (k : Res w w' r c n) : ∀ b o, r = some ⟨b, o, none⟩ → b < w'.heap.size := fun b o e => by
 obtain ⟨_, _, rest, h, _⟩ := k.own b o e
 exact h.size

end Go.Proofs.YtnhfpekpdephjaaGreat

/-
 nat.Div.
-/
namespace Go.Proofs.YtnhfpekpdephjaaGreat
open Go.RowKit Nt
set_option linter.unusedSimpArgs false
set_option linter.unusedVariables false
set_option maxRecDepth 20000

end Go.Proofs.YtnhfpekpdephjaaGreat
