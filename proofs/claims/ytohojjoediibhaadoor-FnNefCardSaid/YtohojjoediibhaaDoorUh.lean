/- The draws of a fan and a divisor that is often nef. -/
import Derived.Test.YtohojjoediibhaaDoorUg
namespace Go.Proofs.YtohojjoediibhaaDoor
open Go.RowKit

set_option maxHeartbeats 1000000 in
theorem drawDivisorNef_any (w : World) (a : Option Addr) (len cap : Nat) (h : Bytes w a len cap) :
    Calls Tryd.prog 31 #[.slice a len cap] w (GivenD w) := by
  have HO := Lib.hid (l92Nef_any w a len cap h)
  clear h
  go_enter Tryd.func31, Tryd.ntmps31
  go_wp2_with fail
  refine Calls.mono HO.out ?_
  rintro e w1 ⟨v, u, l, d, rfl, hV, hI, h2, h20, hd, hb⟩
  have HR := Lib.hid hV
  have HI := Lib.hid hI
  have HD := Lib.hid hd
  clear hV hI hd
  go_wp2
  go_returns
  exact ⟨_, _, l, d, rfl, HR.out, HI.out, h2, h20, HD.out, hb⟩
set_option maxHeartbeats 1000000 in
theorem drawDivisorAmple_any (w : World) (a : Option Addr) (len cap : Nat) (h : Bytes w a len cap) :
    Calls Tryd.prog 34 #[.slice a len cap] w (GivenD w) := by
  have HO := Lib.hid (l92Nef_any w a len cap h)
  clear h
  go_enter Tryd.func34, Tryd.ntmps34
  go_wp2_with fail
  refine Calls.mono HO.out ?_
  rintro e w1 ⟨v, u, l, d, rfl, hV, hI, h2, h20, hd, hb⟩
  have HR := Lib.hid hV
  have HI := Lib.hid hI
  have HD := Lib.hid hd
  clear hV hI hd
  go_wp2
  go_returns
  exact ⟨_, _, l, d, rfl, HR.out, HI.out, h2, h20, HD.out, hb⟩
end Go.Proofs.YtohojjoediibhaaDoor
