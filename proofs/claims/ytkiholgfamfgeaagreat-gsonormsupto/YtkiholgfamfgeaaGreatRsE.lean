import Derived.Test.YtkiholgfamfgeaaGreatSetB
import Derived.Test.YtkiholgfamfgeaaGreatSetK
import Derived.Test.YtkiholgfamfgeaaGreatSetE
import Derived.Laws.Append
import Derived.Laws.IdiomStrings
import Derived.Test.YtkiholgfamfgeaaGreatRsF
import Derived.Test.YtkiholgfamfgeaaGreatRsJ
/-
  The text of 1.
-/
namespace Go.Proofs.YtkiholgfamfgeaaGreat
open Go.RowKit Nt
set_option linter.unusedSimpArgs false
set_option linter.unusedVariables false
set_option maxRecDepth 20000

end Go.Proofs.YtkiholgfamfgeaaGreat

/-
  The greatest divisor of 2 and 2; 2 by 2 in lowest terms; its text.
-/
namespace Go.Proofs.YtkiholgfamfgeaaGreat
open Go.RowKit Nt
set_option linter.unusedSimpArgs false
set_option linter.unusedVariables false
set_option maxRecDepth 20000

end Go.Proofs.YtkiholgfamfgeaaGreat

/-
  zint.Near, where the rest is a half or more.
-/
namespace Go.Proofs.YtkiholgfamfgeaaGreat
open Go.RowKit Nt
set_option linter.unusedSimpArgs false
set_option linter.unusedVariables false
set_option maxRecDepth 20000

end Go.Proofs.YtkiholgfamfgeaaGreat

/-
  2 by 2 in lowest terms is 1 by 1; its text.
-/
namespace Go.Proofs.YtkiholgfamfgeaaGreat
open Go.RowKit Nt
set_option linter.unusedSimpArgs false
set_option linter.unusedVariables false
set_option maxRecDepth 20000

end Go.Proofs.YtkiholgfamfgeaaGreat

/-
  What the law's awake calls.
-/
namespace Go.Proofs.YtkiholgfamfgeaaGreat
open Go.RowKit Nt
set_option linter.unusedSimpArgs false
set_option linter.unusedVariables false
set_option maxRecDepth 20000

end Go.Proofs.YtkiholgfamfgeaaGreat
