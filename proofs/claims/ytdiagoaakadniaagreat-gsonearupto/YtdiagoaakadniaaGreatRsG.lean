import Derived.Test.YtdiagoaakadniaaGreatRsD
import Derived.Test.YtdiagoaakadniaaGreatRsF
namespace Go.Proofs.YtdiagoaakadniaaGreat
open Go.RowKit Nt
set_option linter.unusedSimpArgs false
set_option linter.unusedVariables false
set_option maxRecDepth 20000
set_option maxHeartbeats 16000000
def sw (t : Bool) (P : Int) : Int := if t then -P else P


end Go.Proofs.YtdiagoaakadniaaGreat
