import Derived.Test.YtgaeibibeekclaaDoorB6
import Derived.RangeFuncNested
import Derived.RangeFuncBound
import Derived.RangeFuncCalls
import Derived.RangeFuncLeaves
import Derived.RangeFuncBox
import Derived.Shelf.Abstract
import Derived.WalkKit
import Derived.OwnWalkIn
import Derived.TacticsInMore
import Derived.LoopNIn
import Derived.LoopIn
import Derived.Test.YtgaeibibeekclaaDoorB4
import Derived.RegionTactic
import Derived.ChangeAlike
import Derived.Deep.RegionHeld3
import Derived.Deep.DeepCutAuto
import Derived.Test.YtgaeibibeekclaaDoorRg
/- Fans: the iterator over the links. -/
namespace Go.Proofs.YtgaeibibeekclaaDoor
open Go.RowKit Go.Shelf

attribute [local go_sem] Oper.semAt_some

end Go.Proofs.YtgaeibibeekclaaDoor

/- Fans: the cone and the number of a link. -/
namespace Go.Proofs.YtgaeibibeekclaaDoor
open Go.RowKit

end Go.Proofs.YtgaeibibeekclaaDoor

/- Regions that draw their order: XRg. -/

/- Regions that draw their order: XRg. -/
