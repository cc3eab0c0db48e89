import Derived.Test.YtdiagoaakadniaaGreatSetB
import Derived.Test.YtdiagoaakadniaaGreatSetK
import Derived.Test.YtdiagoaakadniaaGreatSetE
import Derived.Laws.Append
import Derived.Laws.IdiomStrings
import Derived.Test.YtdiagoaakadniaaGreatRsF
import Derived.Test.YtdiagoaakadniaaGreatRsJ
namespace Go.Proofs.YtdiagoaakadniaaGreat
open Go.RowKit Nt
set_option linter.unusedSimpArgs false
set_option linter.unusedVariables false
set_option maxRecDepth 20000
set_option maxHeartbeats 16000000





end Go.Proofs.YtdiagoaakadniaaGreat
