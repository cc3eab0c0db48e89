/-
 The calls of package math and of ival that take floats by their bits and hand back floats or bools.
-/
import Derived.Test.YthmccopeigpelaaGreatSetA
import Derived.Test.YthmccopeigpelaaGreatFPlace
import Derived.Laws.Externs
import Derived.Laws.Cover2
import Derived.Laws.FloatArith
import Derived.Handy
namespace Go.Proofs.YthmccopeigpelaaGreat
open Go.RowKit Nt
set_option linter.unusedSimpArgs false
set_option linter.unusedVariables false
set_option maxRecDepth 20000

theorem wrap_u64 {x : Nat} (h : x < 18446744073709551616) : IntKind.u64.wrap (x : Int) = x := by
 simp [IntKind.wrap, IntKind.bits, IntKind.signed]; omega
end Go.Proofs.YthmccopeigpelaaGreat
