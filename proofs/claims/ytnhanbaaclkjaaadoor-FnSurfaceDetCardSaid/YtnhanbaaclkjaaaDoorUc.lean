/- The draws of a smooth fan, seldom another list, alone. -/
import Derived.Test.YtnhanbaaclkjaaaDoorBd
namespace Go.Proofs.YtnhanbaaclkjaaaDoor
open Go.RowKit

/-- a list of vectors in new memory -/
def GivenV (w : World) (e : Ending) (w' : World) : Prop :=
  ∃ (v : Value) (l : List V2), e = .returned v ∧ ReadsVecs w' v l ∧ 2 ≤ l.length ∧ l.length ≤ 20 ∧ Below w.heap.size w w'
set_option maxHeartbeats 1000000 in
theorem drawSurfaceDet_any (w : World) (a : Option Addr) (len cap : Nat) (h : Bytes w a len cap) :
    Calls Tryd.prog 17 #[.slice a len cap] w (GivenV w) := by
  have HO := Lib.hid (l6Open_any w a len cap h)
  clear h
  go_enter Tryd.func17, Tryd.ntmps17
  go_wp2_with fail
  refine Calls.mono HO.out ?_
  rintro e w1 ⟨l1, c1, rfl, r1, hb1, hs1⟩
  go_wp2_with fail
  refine Calls.mono (l91Smooth_any w1 w.heap.size a l1 c1 0 r1 (by omega)) ?_
  rintro e w2 ⟨v, l, q, rfl, hV, h2, h20, r2, hq, hb2⟩
  have HB := Lib.hid (hb1.trans hb2)
  have HV := Lib.hid hV.1
  clear hV hb1 hb2 r1 r2 hq hs1
  go_wp2
  go_returns
  exact ⟨_, l, rfl, HV.out, h2, h20, HB.out⟩
set_option maxHeartbeats 1000000 in
theorem drawFanNumbers_any (w : World) (a : Option Addr) (len cap : Nat) (h : Bytes w a len cap) :
    Calls Tryd.prog 12 #[.slice a len cap] w (GivenV w) := by
  have HO := Lib.hid (l6Open_any w a len cap h)
  clear h
  go_enter Tryd.func12, Tryd.ntmps12
  go_wp2_with fail
  refine Calls.mono HO.out ?_
  rintro e w1 ⟨l1, c1, rfl, r1, hb1, hs1⟩
  go_wp2_with fail
  refine Calls.mono (l91Smooth_any w1 w.heap.size a l1 c1 0 r1 (by omega)) ?_
  rintro e w2 ⟨v, l, q, rfl, hV, h2, h20, r2, hq, hb2⟩
  have HB := Lib.hid (hb1.trans hb2)
  have HV := Lib.hid hV.1
  clear hV hb1 hb2 r1 r2 hq hs1
  go_wp2
  go_returns
  exact ⟨_, l, rfl, HV.out, h2, h20, HB.out⟩
end Go.Proofs.YtnhanbaaclkjaaaDoor
