import Derived.Test.YtdnindaohpdblaaGreatRsK
set_option linter.all false
namespace Go.Proofs.YtdnindaohpdblaaGreat
open Go Go.RowKit Nt
set_option maxRecDepth 20000
set_option maxHeartbeats 16000000


end Go.Proofs.YtdnindaohpdblaaGreat
