/- The draws of a smooth fan and an index, and of a kind. -/
import Derived.Test.YtdlofnkimikaiaaDoorUc
namespace Go.Proofs.YtdlofnkimikaiaaDoor
open Go.RowKit

def GivenI (w : World) (e : Ending) (w' : World) : Prop :=
  ∃ (v : Value) (l : List V2) (i : Int), e = .returned (.tuple #[v, .int .i64 i]) ∧ ReadsVecs w' v l ∧ 2 ≤ l.length ∧ l.length ≤ 20 ∧ Below w.heap.size w w'
set_option maxHeartbeats 4000000 in
theorem l91Index_any (w : World) (a : Option Addr) (len cap : Nat) (h : Bytes w a len cap) :
    Calls Tryd.prog 88 #[.slice a len cap] w (GivenI w) := by
  have HO := Lib.hid (l6Open_any w a len cap h)
  clear h
  go_enter Tryd.func88, Tryd.ntmps88
  go_wp2_with fail
  refine Calls.mono HO.out ?_
  rintro e w1 ⟨l1, c1, rfl, r1, hb1, hs1⟩
  go_wp2_with fail
  refine Calls.mono (l91Smooth_any w1 w.heap.size a l1 c1 0 r1 (by omega)) ?_
  rintro e w2 ⟨v, l, q, rfl, hV, h2, h20, r2, hq, hb2⟩
  obtain ⟨bb, off, c, rfl, hc, hbb, hbs, hcs⟩ := hV.open (by omega)
  have HB2 := Lib.hid (hb1.trans hb2)
  clear hcs hb2 hb1 r1
  go_wp2_with fail
  refine Calls.mono (pickG_any _ w.heap.size a l1 c1 q l.length r2 (by omega) (by omega)) ?_
  rintro e w3 ⟨⟨x, rfl, x0, x7, r3, -, -, -, b3⟩, g3⟩
  have HV3 := Lib.hid (hV.picked g3 (by omega))
  have HB3 := Lib.hid (HB2.out.trans b3)
  clear hV g3 b3 r2 HB2
  go_wp2_with fail
  refine Calls.mono (pickG_any _ w.heap.size a l1 c1 (q + 1) 20 r3 (by omega) (by omega)) ?_
  rintro e w4 ⟨⟨y, rfl, y0, y7, r4, -, -, -, b4⟩, g4⟩
  have HV4 := Lib.hid (HV3.out.picked g4 (by omega)).1
  have HB4 := Lib.hid (HB3.out.trans b4)
  have e9 : y.tdiv 19 = y / 19 := Int.tdiv_eq_ediv_of_nonneg y0
  clear g4 b4 r3 r4 HB3 HV3
  go_wp2
  go_returns
  exact ⟨_, l, _, rfl, HV4.out, h2, h20, HB4.out⟩
end Go.Proofs.YtdlofnkimikaiaaDoor
