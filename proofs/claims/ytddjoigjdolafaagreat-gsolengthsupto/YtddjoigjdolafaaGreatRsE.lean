import Derived.Test.YtddjoigjdolafaaGreatSetB
import Derived.Test.YtddjoigjdolafaaGreatSetK
import Derived.Test.YtddjoigjdolafaaGreatSetE
import Derived.Laws.Append
import Derived.Laws.IdiomStrings
import Derived.Test.YtddjoigjdolafaaGreatRsF
import Derived.Test.YtddjoigjdolafaaGreatRsJ
/-
 The text of 1.
-/
namespace Go.Proofs.YtddjoigjdolafaaGreat
open Go.RowKit Nt
set_option linter.unusedSimpArgs false
set_option linter.unusedVariables false
set_option maxRecDepth 20000

end Go.Proofs.YtddjoigjdolafaaGreat

/-
 The greatest divisor of 2 and 2; 2 by 2 in lowest terms; its text.
-/
namespace Go.Proofs.YtddjoigjdolafaaGreat
open Go.RowKit Nt
set_option linter.unusedSimpArgs false
set_option linter.unusedVariables false
set_option maxRecDepth 20000

end Go.Proofs.YtddjoigjdolafaaGreat

/-
 zint.Near, where the rest is a half or more.
-/
namespace Go.Proofs.YtddjoigjdolafaaGreat
open Go.RowKit Nt
set_option linter.unusedSimpArgs false
set_option linter.unusedVariables false
set_option maxRecDepth 20000

end Go.Proofs.YtddjoigjdolafaaGreat

/-
 2 by 2 in lowest terms is 1 by 1; its text.
-/
namespace Go.Proofs.YtddjoigjdolafaaGreat
open Go.RowKit Nt
set_option linter.unusedSimpArgs false
set_option linter.unusedVariables false
set_option maxRecDepth 20000

end Go.Proofs.YtddjoigjdolafaaGreat

/-
 What the law's awake calls.
-/
namespace Go.Proofs.YtddjoigjdolafaaGreat
open Go.RowKit Nt
set_option linter.unusedSimpArgs false
set_option linter.unusedVariables false
set_option maxRecDepth 20000

end Go.Proofs.YtddjoigjdolafaaGreat
