/- The draws of chapter 4 that hand on a fan and one or two divisors. -/
import Derived.Test.YtohojjoediibhaaDoorBd
namespace Go.Proofs.YtohojjoediibhaaDoor
open Go.RowKit

set_option maxHeartbeats 1000000 in
theorem drawDivisorIn_any (w : World) (a : Option Addr) (len cap : Nat) (h : Bytes w a len cap) :
    Calls Tryd.prog 19 #[.slice a len cap] w (GivenD w) := by
  have HO := Lib.hid (l92Given_any w a len cap h)
  clear h
  go_enter Tryd.func19, Tryd.ntmps19
  go_wp2_with fail
  refine Calls.mono HO.out ?_
  rintro e w1 ⟨v, u, l, d, rfl, hV, hI, h2, h20, hd, hb⟩
  have HR := Lib.hid hV
  have HI := Lib.hid hI
  have HD := Lib.hid hd
  clear hV hI hd
  go_wp2
  go_returns
  exact ⟨_, _, l, d, rfl, HR.out, HI.out, h2, h20, HD.out, hb⟩
/-- a list of vectors and twice as many numbers, in new memory -/
def GivenT (w : World) (e : Ending) (w' : World) : Prop :=
  ∃ (v u t : Value) (l : List V2) (d d2 : List Int), e = .returned (.tuple #[v, u, t]) ∧ ReadsVecs w' v l ∧ ReadsInts w' u d ∧ ReadsInts w' t d2 ∧ 2 ≤ l.length ∧ l.length ≤ 20 ∧ d.length = l.length ∧ d2.length = l.length ∧ Below w.heap.size w w'
set_option maxHeartbeats 8000000 in
theorem l92Two_any (w : World) (a : Option Addr) (len cap : Nat) (h : Bytes w a len cap) :
    Calls Tryd.prog 87 #[.slice a len cap] w (GivenT w) := by
  have HO := Lib.hid (l6Open_any w a len cap h)
  clear h
  go_enter Tryd.func87, Tryd.ntmps87
  go_wp2_with fail
  refine Calls.mono HO.out ?_
  rintro e w1 ⟨l1, c1, rfl, r1, hb1, hs1⟩
  go_wp2_with fail
  refine Calls.mono (l91Smooth_any w1 w.heap.size a l1 c1 0 r1 (by omega)) ?_
  rintro e w2 ⟨v, l, q, rfl, hV, h2, h20, r2, hq, hb2⟩
  have hB2 := hb1.trans hb2
  obtain ⟨bb, off, c, rfl, hc, hbb, hbs, hcs⟩ := hV.open (by omega)
  clear hcs hb2 hb1 r1
  go_wp2_with fail
  refine Calls.mono (l92Divisor_any w2 w.heap.size a l1 c1 q _ l.length c r2 (by omega) (by omega) (by omega)) ?_
  rintro e w3 ⟨u, d, q3, rfl, hI, hd, r3, hq3, hb3, hG3⟩
  have hV3 := hV.picked hG3 (by omega)
  have hB3 := hB2.trans hb3
  have hs3 := hb3.size
  have hbb2 := hbs
  clear hV hb3 hG3 hB2 r2
  go_wp2_with fail
  refine Calls.mono (l92Divisor_any _ w.heap.size a l1 c1 q3 _ l.length c (r3.below (by go_grown)) (by omega) (by omega) (by omega)) ?_
  rintro e w4 ⟨u2, d2, q4, rfl, hI2, hd2, r4, hq4, hb4, hG4⟩
  have hV4 := hV3.picked (grown_trans (grown_then (grown_refl w3 (some w.heap.size)) (by go_grown)) hG4) (by omega)
  have hI4 := hI.picked (grown_trans (grown_then (grown_refl w3 (some w.heap.size)) (by go_grown)) hG4) (by omega)
  have HR := Lib.hid hV4.1
  have HI := Lib.hid (hI4.reads (by omega))
  have HJ := Lib.hid (hI2.reads (by omega))
  have HD := Lib.hid hd
  have HD2 := Lib.hid hd2
  have hB := hB3.trans (Below.trans (by go_grown) hb4)
  clear hV3 hV4 hI hI4 hI2 hb4 hG4 hB3 r3 r4 hd hd2
  go_wp2
  go_returns
  exact ⟨_, _, _, l, d, d2, rfl, HR.out, HI.out, HJ.out, h2, h20, HD.out, HD2.out, hB⟩
set_option maxHeartbeats 1000000 in
theorem drawDivisorAdd_any (w : World) (a : Option Addr) (len cap : Nat) (h : Bytes w a len cap) :
    Calls Tryd.prog 25 #[.slice a len cap] w (GivenT w) := by
  have HO := Lib.hid (l92Two_any w a len cap h)
  clear h
  go_enter Tryd.func25, Tryd.ntmps25
  go_wp2_with fail
  refine Calls.mono HO.out ?_
  rintro e w1 ⟨v, u, t, l, d, d2, rfl, hV, hI, hJ, h2, h20, hd, hd2, hb⟩
  have HR := Lib.hid hV
  have HI := Lib.hid hI
  have HJ := Lib.hid hJ
  have HD := Lib.hid hd
  have HD2 := Lib.hid hd2
  clear hV hI hJ hd hd2
  go_wp2
  go_returns
  exact ⟨_, _, _, l, d, d2, rfl, HR.out, HI.out, HJ.out, h2, h20, HD.out, HD2.out, hb⟩
end Go.Proofs.YtohojjoediibhaaDoor
