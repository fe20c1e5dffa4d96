/- The draws of a fan and a divisor that is often nef. -/
import Derived.Test.YtohojjoediibhaaGreatDoorUg
namespace Go.Proofs.YtohojjoediibhaaGreatDoor
open Go.RowKit

set_option maxHeartbeats 1000000 in
theorem drawDivisorEuler_any (w : World) (a : Option Addr) (len cap : Nat) (h : Bytes w a len cap) :
    Calls Tryz.prog 28 #[.slice a len cap] w (GivenD w) := by
  have HO := Lib.hid (l92Nef_any w a len cap h)
  clear h
  go_enter Tryz.func28, Tryz.ntmps28
  go_wp2_with fail
  refine Calls.mono HO.out ?_
  rintro e w1 ⟨v, u, l, d, rfl, hV, hI, h2, h20, hd, hb⟩
  have HR := Lib.hid hV
  have HI := Lib.hid hI
  have HD := Lib.hid hd
  clear hV hI hd
  go_wp2
  go_returns
  exact ⟨_, _, l, d, rfl, HR.out, HI.out, h2, h20, HD.out, hb⟩
set_option maxHeartbeats 1000000 in
theorem drawSectionCorners_any (w : World) (a : Option Addr) (len cap : Nat) (h : Bytes w a len cap) :
    Calls Tryz.prog 36 #[.slice a len cap] w (GivenD w) := by
  have HO := Lib.hid (l92Nef_any w a len cap h)
  clear h
  go_enter Tryz.func36, Tryz.ntmps36
  go_wp2_with fail
  refine Calls.mono HO.out ?_
  rintro e w1 ⟨v, u, l, d, rfl, hV, hI, h2, h20, hd, hb⟩
  have HR := Lib.hid hV
  have HI := Lib.hid hI
  have HD := Lib.hid hd
  clear hV hI hd
  go_wp2
  go_returns
  exact ⟨_, _, l, d, rfl, HR.out, HI.out, h2, h20, HD.out, hb⟩
set_option maxHeartbeats 1000000 in
theorem drawSectionArea_any (w : World) (a : Option Addr) (len cap : Nat) (h : Bytes w a len cap) :
    Calls Tryz.prog 41 #[.slice a len cap] w (GivenD w) := by
  have HO := Lib.hid (l92Nef_any w a len cap h)
  clear h
  go_enter Tryz.func41, Tryz.ntmps41
  go_wp2_with fail
  refine Calls.mono HO.out ?_
  rintro e w1 ⟨v, u, l, d, rfl, hV, hI, h2, h20, hd, hb⟩
  have HR := Lib.hid hV
  have HI := Lib.hid hI
  have HD := Lib.hid hd
  clear hV hI hd
  go_wp2
  go_returns
  exact ⟨_, _, l, d, rfl, HR.out, HI.out, h2, h20, HD.out, hb⟩
end Go.Proofs.YtohojjoediibhaaGreatDoor
