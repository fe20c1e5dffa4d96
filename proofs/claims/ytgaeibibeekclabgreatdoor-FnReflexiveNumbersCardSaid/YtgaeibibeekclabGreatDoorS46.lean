import Derived.Test.YtgaeibibeekclabGreatDoorProg
import Derived.Test.YtgaeibibeekclabGreatDoorS06
import Derived.WalkKit
import Derived.LaidEql
import Derived.Stop.Asserts
import Derived.RowKitTokens
import Derived.Handy
import Derived.WalkSpells
import Derived.WalkLawsBesides
import Derived.Deep.QuietTactic
import Derived.BigQuiet
import Derived.Lib.Hide
import Derived.Deep.RegionHeld3
import Derived.Deep.DeepCutAuto
import Derived.RangeFuncBox
namespace Go.Proofs.YtgaeibibeekclabGreatDoor
open Go.RowKit
theorem num_x {u v z : V2} (h1 : detV u v = 1) (h2 : detV v z = 1) (h0 : v.1 ≠ 0) : (u.1 + z.1).tdiv v.1 = detV u z := by
  rw [(three h1 h2).1]
  exact Int.mul_tdiv_cancel _ h0
theorem num_y {u v z : V2} (h1 : detV u v = 1) (h2 : detV v z = 1) (h0 : v.2 ≠ 0) : (u.2 + z.2).tdiv v.2 = detV u z := by
  rw [(three h1 h2).2]
  exact Int.mul_tdiv_cancel _ h0
end Go.Proofs.YtgaeibibeekclabGreatDoor
