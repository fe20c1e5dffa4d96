import Derived.Test.YtgaeibibeekclabGreatDoorS22
namespace Go.Proofs.YtgaeibibeekclabGreatDoor
open Go.RowKit
set_option maxHeartbeats 1000000 in
theorem drawReflexiveNumbers_any (w : World) (a : Option Addr) (len cap : Nat) (h : Bytes w a len cap) :
    Calls Tryz.prog 28 #[.slice a len cap] w (GivenP w) := by
  have HO := Lib.hid (l6Open_any w a len cap h)
  clear h
  go_enter Tryz.func28, Tryz.ntmps28
  go_wp2_with fail
  refine Calls.mono HO.out ?_
  rintro e w1 ⟨l1, c1, rfl, r1, hb1, hs1⟩
  go_wp2_with fail
  refine Calls.mono (l92Reflexive_any w1 w.heap.size a l1 c1 0 r1 (by omega)) ?_
  rintro e w2 ⟨v, l, rfl, hV, h2, h20, hb2⟩
  have HB2 := Lib.hid (hb1.trans hb2)
  have HV := Lib.hid hV
  clear hV hb1 hb2 r1
  go_wp2
  go_returns
  exact ⟨_, l, rfl, HV.out, h2, h20, HB2.out⟩
end Go.Proofs.YtgaeibibeekclabGreatDoor
