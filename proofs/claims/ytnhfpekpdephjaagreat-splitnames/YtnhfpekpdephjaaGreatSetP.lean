import Derived.Test.YtnhfpekpdephjaaGreatSetU
import Derived.Test.YtnhfpekpdephjaaGreatSetC
import Derived.Test.YtnhfpekpdephjaaGreatSetD
import Derived.Test.YtnhfpekpdephjaaGreatSetB
import Derived.Test.YtnhfpekpdephjaaGreatSetK
import Derived.Laws.AppendOwnNone
/-
 The document's own answers: Two, Shl, Shr.
-/
namespace Go.Proofs.YtnhfpekpdephjaaGreat
open Go.RowKit Nt
set_option linter.unusedSimpArgs false
set_option linter.unusedVariables false
set_option maxRecDepth 20000

end Go.Proofs.YtnhfpekpdephjaaGreat

/-
 The document's own answers: small.
-/
namespace Go.Proofs.YtnhfpekpdephjaaGreat
open Go.RowKit Nt
set_option linter.unusedSimpArgs false
set_option linter.unusedVariables false
set_option maxRecDepth 20000

end Go.Proofs.YtnhfpekpdephjaaGreat

/-
 The numbers behind the document's Div.
-/
namespace Go.Proofs.YtnhfpekpdephjaaGreat
open Go.RowKit Nt
set_option linter.unusedSimpArgs false
set_option linter.unusedVariables false
set_option maxRecDepth 20000

end Go.Proofs.YtnhfpekpdephjaaGreat

/-
 The document's own answer: Div, limb by limb from the top, each limb guessed and corrected downward.
-/
namespace Go.Proofs.YtnhfpekpdephjaaGreat
open Go.RowKit Nt
set_option linter.unusedSimpArgs false
set_option linter.unusedVariables false
set_option maxRecDepth 20000

end Go.Proofs.YtnhfpekpdephjaaGreat

/-
 The document's Div by two limbs and more.
-/
namespace Go.Proofs.YtnhfpekpdephjaaGreat
open Go.RowKit Nt
set_option linter.unusedSimpArgs false
set_option linter.unusedVariables false
set_option maxRecDepth 20000

end Go.Proofs.YtnhfpekpdephjaaGreat
