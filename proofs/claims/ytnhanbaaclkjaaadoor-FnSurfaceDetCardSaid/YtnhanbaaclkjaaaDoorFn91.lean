/- FnSurfaceDet: the walk. -/
import Derived.Test.YtnhanbaaclkjaaaDoorUc
import Derived.Test.YtnhanbaaclkjaaaDoorEv
namespace Go.Proofs.YtnhanbaaclkjaaaDoor
open Go.RowKit

set_option maxRecDepth 100000 in
set_option maxHeartbeats 16000000 in
theorem fnSurfaceDet_any (a : Option Addr) (len cap : Nat) (w : World) (h : Bytes w a len cap) (hg : EtOk w) :
    Calls Tryd.prog 4 #[.slice a len cap] w fun e w' => e = .returned (.bool true) ∧ Below w.heap.size w w' := by
  by_cases hlen : len ≤ 1048576
  case neg =>
    have j1 : (1048576 : Int) < (len : Int) := by omega
    clear h hg
    go_enter Tryd.func4, Tryd.ntmps4
    go_wp2
    go_returns
    exact ⟨rfl, by go_grown⟩
  case pos =>
  have j1 : (len : Int) ≤ 1048576 := by omega
  have HO := Lib.hid (drawSurfaceDet_any w a len cap h)
  clear h
  go_enter Tryd.func4, Tryd.ntmps4
  go_wp2_with fail
  refine Calls.mono HO.out ?_
  rintro e w1 ⟨v, l, rfl, hV, h2, h20, hb1⟩
  have HM := Lib.hid (surfaceDet_any v l w1 hV (hg.below hb1))
  have HS := Lib.hid (fun w' (hb : Below w1.heap.size w1 w') => specSurfaceDet_any v l w' (hV.below hb))
  have HE := Lib.hid (fun (h : smoothB l = true) => dtJ_all (smooth_all h) (smooth_len h).1)
  obtain ⟨va, vc, rfl, _, _, _⟩ := hV
  have hs1 := hb1.size
  have HB1 := Lib.hid hb1
  clear hb1 HO hg
  cases hk : (smoothB l && decide (l.length ≤ 9))
  · rw [hk] at HM HS
    clear hk HE
    go_wp2_with fail
    refine Calls.mono HM.out ?_
    rintro e w2 ⟨rfl, hb2⟩
    go_wp2_with fail
    refine Calls.mono (HS.out _ hb2) ?_
    rintro e w3 ⟨rfl, hb3⟩
    have hB := HB1.out.trans ((belowTo hb2 hb3).mono hs1)
    clear hb2 hb3
    go_wp2
    go_returns
    exact ⟨rfl, hB⟩
  · have hs : smoothB l = true := by
      cases h : smoothB l
      · rw [h] at hk; cases hk
      · rfl
    have hd := HE.out hs
    rw [hk, gate_true, hd] at HM HS
    clear hk HE hs hd
    generalize l.length = n at *
    by_cases h0 : n % 2 = 0
    · rw [if_pos h0] at HM HS
      have t1 : Int.tmod (n : Int) 2 = 0 := by rw [Int.tmod_eq_emod_of_nonneg (by omega)]; omega
      clear h0
      go_wp2_with fail
      refine Calls.mono HM.out ?_
      rintro e w2 ⟨rfl, hb2⟩
      go_wp2_with fail
      refine Calls.mono (HS.out _ hb2) ?_
      rintro e w3 ⟨rfl, hb3⟩
      have hB := HB1.out.trans ((belowTo hb2 hb3).mono hs1)
      clear hb2 hb3
      go_wp2
      go_returns
      exact ⟨rfl, hB⟩
    · rw [if_neg h0] at HM HS
      have t1 : Int.tmod (n : Int) 2 = 1 := by rw [Int.tmod_eq_emod_of_nonneg (by omega)]; omega
      clear h0
      go_wp2_with fail
      refine Calls.mono HM.out ?_
      rintro e w2 ⟨rfl, hb2⟩
      go_wp2_with fail
      refine Calls.mono (HS.out _ hb2) ?_
      rintro e w3 ⟨rfl, hb3⟩
      have hB := HB1.out.trans ((belowTo hb2 hb3).mono hs1)
      clear hb2 hb3
      go_wp2
      go_returns
      exact ⟨rfl, hB⟩
end Go.Proofs.YtnhanbaaclkjaaaDoor
