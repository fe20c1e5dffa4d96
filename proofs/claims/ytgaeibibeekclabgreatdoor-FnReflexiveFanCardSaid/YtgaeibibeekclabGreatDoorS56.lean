import Derived.Test.YtgaeibibeekclabGreatDoorProg
import Derived.Test.YtgaeibibeekclabGreatDoorS04
import Derived.Test.YtgaeibibeekclabGreatDoorS06
import Derived.Test.YtgaeibibeekclabGreatDoorS07
import Derived.Test.YtgaeibibeekclabGreatDoorS21
import Derived.Test.YtgaeibibeekclabGreatDoorS22
import Derived.WalkKit
import Derived.LaidEql
import Derived.Stop.Asserts
import Derived.RowKitTokens
import Derived.Handy
import Derived.WalkSpells
import Derived.WalkLawsBesides
import Derived.Deep.QuietTactic
import Derived.BigQuiet
import Derived.Lib.Hide
import Derived.Deep.RegionHeld3
import Derived.Deep.DeepCutAuto
import Derived.Deep.AppendLies
import Derived.Laws.OwnMore
import Derived.Laws.MakeOwn
import Derived.OwnWalk
import Derived.WalkSmall
import Derived.Maps.AppendAt
import Derived.RangeFuncBox
import Derived.RegionTactic
import Derived.ChangeAlike
import Derived.RangeFuncNested
import Derived.StillTail
import Derived.OrdersIn
import Derived.AtR
import Derived.RangeFuncBound
import Derived.RangeFuncCalls
import Derived.RangeFuncLeaves
import Derived.Shelf.Abstract
import Derived.OwnWalkIn
import Derived.TacticsInMore
import Derived.LoopNIn
import Derived.LoopIn
import Derived.LaidEqlPtr
import Derived.BigRegion
import Derived.StillTailTactics
import Derived.Deep.RegionHeld
import Derived.Laws.StructEq
import Derived.Lib.MinMax
import Derived.Shelf.SlSortCmp.WholeK
import Derived.Laws.IdiomCopy
import Derived.Shelf.SlGeneric
import Derived.Shelf.SlSortCmp.NoneTotal
import Derived.Shelf.SlicesE.Clone
import Derived.Shelf.SlicesQ.Reverse
import Derived.Ground.SlsfProg
import Derived.Ground.SlgnProg
import Derived.Deep.RegionLaw
import Derived.ArgAppend
namespace Go.Proofs.YtgaeibibeekclabGreatDoor
open Go.RowKit
set_option maxHeartbeats 1000000 in
theorem drawReflexiveFan_any (w : World) (a : Option Addr) (len cap : Nat) (h : Bytes w a len cap) :
    Calls Tryz.prog 22 #[.slice a len cap] w (GivenP w) := by
  have HO := Lib.hid (l6Open_any w a len cap h)
  clear h
  go_enter Tryz.func22, Tryz.ntmps22
  go_wp2_with fail
  refine Calls.mono HO.out ?_
  rintro e w1 ⟨l1, c1, rfl, r1, hb1, hs1⟩
  go_wp2_with fail
  refine Calls.mono (l92Reflexive_any w1 w.heap.size a l1 c1 0 r1 (by omega)) ?_
  rintro e w2 ⟨v, l, rfl, hV, h2, h20, hb2⟩
  have HB2 := Lib.hid (hb1.trans hb2)
  have HV := Lib.hid hV
  clear hV hb1 hb2 r1
  go_wp2
  go_returns
  exact ⟨_, l, rfl, HV.out, h2, h20, HB2.out⟩
end Go.Proofs.YtgaeibibeekclabGreatDoor
