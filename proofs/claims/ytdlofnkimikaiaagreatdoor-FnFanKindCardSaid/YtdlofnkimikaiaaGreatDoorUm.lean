/- The draws of a smooth fan that is often a least one; of one that is often blown down; of indexes. -/
import Derived.Test.YtdlofnkimikaiaaGreatDoorI2
import Derived.Test.YtdlofnkimikaiaaGreatDoorI9
import Derived.Test.YtdlofnkimikaiaaGreatDoorI1
import Derived.Test.YtdlofnkimikaiaaGreatDoorBf
namespace Go.Proofs.YtdlofnkimikaiaaGreatDoor
open Go.RowKit

set_option maxHeartbeats 4000000 in
theorem drawFanKind_any (w : World) (a : Option Addr) (len cap : Nat) (h : Bytes w a len cap) :
    Calls Tryz.prog 5 #[.slice a len cap] w (GivenV w) := by
  have HO := Lib.hid (l6Open_any w a len cap h)
  have HLe := Lib.hid (fun v l w' hv => specFanLeast_any v l w' hv)
  have HL3 : Hid (∀ l : List V2, smoothB l = true → 2 ≤ (tidyL (leastL l)).length ∧ (tidyL (leastL l)).length ≤ l.length) := fun l hl => by
    obtain ⟨-, q2, q3, -, -⟩ := least_all hl
    omega
  clear h
  go_enter Tryz.func5, Tryz.ntmps5
  go_wp2_with fail
  refine Calls.mono HO.out ?_
  rintro e w1 ⟨l1, c1, rfl, r1, hb1, hs1⟩
  go_wp2_with fail
  refine Calls.mono (l91Smooth_any w1 w.heap.size a l1 c1 0 r1 (by omega)) ?_
  rintro e w2 ⟨v, l, q, rfl, hV, h2, h20, r2, hq, hb2⟩
  have HB := Lib.hid (hb1.trans hb2)
  have HV := Lib.hid hV
  have HR := Lib.hid r2
  have hs2 := hb2.size
  have HLl := Lib.hid (HLe.out v l w2 hV.1)
  have HLs := Lib.hid (HL3.out l)
  clear hV hb1 hb2 r1 r2 HO HLe HL3
  generalize tidyL (leastL l) = T at *
  generalize smoothB l = K at *
  obtain ⟨va, vc, rfl, -⟩ := HV.out.1
  go_wp2_with fail
  refine Calls.mono HLl.out ?_
  rintro e w3 ⟨u, rfl, hU, hb3⟩
  have HB3 := Lib.hid (HB.out.trans (hb3.mono (by omega)))
  have HV3 := Lib.hid (HV.out.below hb3)
  have HR3 := Lib.hid (HR.out.below (hb3.mono (by omega)))
  have hs3 := hb3.size
  cases K
  · clear hU hb3 HLl HB HV HR HLs
    go_wp2
    go_returns
    exact ⟨_, l, rfl, HV3.out.1, h2, h20, HB3.out⟩
  · obtain ⟨t1, t2⟩ := HLs.out rfl
    have HU : Hid (VecsO w3 w2.heap.size u T) := VecsO.of hU (by omega) (by omega)
    obtain ⟨ua, uc, rfl, -⟩ := HU.out.1
    clear hU hb3 HLl HB HV HR HLs
    go_wp2_with fail
    refine Calls.mono (pickG_any _ w.heap.size a l1 c1 q 3 HR3.out (by omega) (by omega)) ?_
    rintro e w4 ⟨⟨y, rfl, y0, y7, r4, -, -, -, b4⟩, g4⟩
    have HV4 := Lib.hid (HV3.out.picked g4 (by omega)).1
    have HU4 := Lib.hid (HU.out.picked g4 (by omega)).1
    have HB4 := Lib.hid (HB3.out.trans b4)
    clear g4 b4 r4 HR3 HB3 HV3 HU
    by_cases hy : 0 < y
    · go_wp2
      go_returns
      exact ⟨_, T, rfl, HU4.out, t1, by omega, HB4.out⟩
    · go_wp2
      go_returns
      exact ⟨_, l, rfl, HV4.out, h2, h20, HB4.out⟩
def GivenIs (w : World) (e : Ending) (w' : World) : Prop := ∃ (u : Value) (d : List Int), e = .returned u ∧ ReadsInts w' u d ∧ d.length ≤ 5 ∧ Below w.heap.size w w'
end Go.Proofs.YtdlofnkimikaiaaGreatDoor
