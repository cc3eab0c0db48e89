/-
 Places and steps: the program's Down and Up, the document's, and their helpers.
-/
import Derived.Test.YthmccopeigpelaaGreatFLeaf
namespace Go.Proofs.YthmccopeigpelaaGreat
open Go.RowKit Nt
set_option linter.unusedSimpArgs false
set_option linter.unusedVariables false
set_option maxRecDepth 20000

/-- What the program takes for a float's place. -/
def pl (b : Nat) : Int := if 9223372036854775808 ≤ b then -((b % 9223372036854775808 : Nat) : Int) else ((b % 9223372036854775808 : Nat) : Int)
end Go.Proofs.YthmccopeigpelaaGreat
