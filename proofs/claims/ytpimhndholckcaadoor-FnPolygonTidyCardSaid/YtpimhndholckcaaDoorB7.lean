import Derived.Test.YtpimhndholckcaaDoorB6
import Derived.RangeFuncNested
import Derived.RangeFuncBound
import Derived.RangeFuncCalls
import Derived.RangeFuncLeaves
import Derived.RangeFuncBox
import Derived.Shelf.Abstract
import Derived.WalkKit
import Derived.OwnWalkIn
import Derived.TacticsInMore
import Derived.LoopNIn
import Derived.LoopIn
import Derived.Test.YtpimhndholckcaaDoorB4
import Derived.RegionTactic
import Derived.ChangeAlike
import Derived.Deep.RegionHeld3
import Derived.Deep.DeepCutAuto
import Derived.Test.YtpimhndholckcaaDoorRg
/- Fans: the iterator over the links. -/
namespace Go.Proofs.YtpimhndholckcaaDoor
open Go.RowKit Go.Shelf

attribute [local go_sem] Oper.semAt_some

end Go.Proofs.YtpimhndholckcaaDoor

/- Fans: the cone and the number of a link. -/
namespace Go.Proofs.YtpimhndholckcaaDoor
open Go.RowKit

end Go.Proofs.YtpimhndholckcaaDoor

/- Regions that draw their order: XRg. -/

/- Regions that draw their order: XRg. -/
