/-
  No contract of the library is wanted at this program.
-/
import Derived.Shelf.Small.Bits
import Derived.Test.YtnbmpldfbbidmaaProg
namespace Go.Proofs
end Go.Proofs
