import Derived.Test.YtcieihbknfeddaaB6
import Derived.RangeFuncNested
import Derived.RangeFuncBound
import Derived.RangeFuncCalls
import Derived.RangeFuncLeaves
import Derived.RangeFuncBox
import Derived.Shelf.Abstract
import Derived.WalkKit
import Derived.OwnWalkIn
import Derived.TacticsInMore
import Derived.LoopNIn
import Derived.LoopIn
import Derived.Test.YtcieihbknfeddaaB4
import Derived.RegionTactic
import Derived.ChangeAlike
import Derived.Deep.RegionHeld3
import Derived.Deep.DeepCutAuto
import Derived.Test.YtcieihbknfeddaaL4
/- Fans: the iterator over the links. -/
namespace Go.Proofs.Ytcieihbknfeddaa
open Go.RowKit Go.Shelf

attribute [local go_sem] Oper.semAt_some

end Go.Proofs.Ytcieihbknfeddaa

/- Fans: the cone and the number of a link. -/
namespace Go.Proofs.Ytcieihbknfeddaa
open Go.RowKit

end Go.Proofs.Ytcieihbknfeddaa

/- Regions that draw their order: XRg. -/

/- Regions that draw their order: XRg. -/
