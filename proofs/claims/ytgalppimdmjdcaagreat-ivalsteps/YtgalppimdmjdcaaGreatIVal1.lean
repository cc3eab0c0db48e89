/-
  Layer 9: Valid, Add, Sub, and what the document says of them.
-/
import Derived.Test.YtgalppimdmjdcaaGreatFlC
namespace Go.Proofs.YtgalppimdmjdcaaGreat
open Go Go.RowKit Nt
set_option linter.unusedSimpArgs false
set_option linter.unusedVariables false
set_option maxRecDepth 20000

theorem h_equal {p : Option Int} : ∀ w u v, FL p u w → FL p v w → Calls Tryz.prog 10 #[u, v] w (Gives (IS (.bool true)) w) := fl2 (fun w b c hb hp hc hq => (equal_t b c (hp.trans hq.symm)).gives w)
end Go.Proofs.YtgalppimdmjdcaaGreat
