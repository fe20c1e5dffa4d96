/- The exact law of FractionOther; both laws at whatever slice comes in. -/
import Derived.Test.YtcieihbknfeddaaFh
import Derived.Test.YtcieihbknfeddaaRi
namespace Go.Proofs.Ytcieihbknfeddaa
open Go.RowKit

end Go.Proofs.Ytcieihbknfeddaa
