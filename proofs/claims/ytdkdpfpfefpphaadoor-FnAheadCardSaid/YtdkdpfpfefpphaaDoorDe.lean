/- FnAhead: what is ahead is not behind. -/
import Derived.Test.YtdkdpfpfefpphaaDoorDd
import Derived.Test.YtdkdpfpfefpphaaDoorTk
namespace Go.Proofs.YtdkdpfpfefpphaaDoor
open Go.RowKit

theorem det_swap (x1 y1 x2 y2 : Int) : detZ x2 y2 x1 y1 = -detZ x1 y1 x2 y2 := by
  unfold detZ
  rw [Int.mul_comm x2 y1, Int.mul_comm y2 x1]
  omega
theorem det_self (x y : Int) : detZ x y x y = 0 := by
  unfold detZ
  rw [Int.mul_comm x y]
  omega
theorem ahead_back {x1 y1 x2 y2 : Int} (h : aheadOk x1 y1 x2 y2 = true) : aheadOk x2 y2 x1 y1 = false := by
  have h' : twoOk x1 y1 x2 y2 = true ∧ nzB x1 y1 = true ∧ nzB x2 y2 = true ∧ aheadB x1 y1 x2 y2 = true := by simpa [aheadOk] using h
  have hb : aheadB x2 y2 x1 y1 = false := by
    have ha := h'.2.2.2
    unfold aheadB at ha ⊢
    rw [det_swap]
    cases k1 : backB x1 y1 <;> cases k2 : backB x2 y2 <;> simp [k1, k2] at ha ⊢ <;> omega
  unfold aheadOk
  rw [hb]
  simp
theorem ahead_self (x y : Int) : aheadOk x y x y = false := by
  have hb : aheadB x y x y = false := by
    unfold aheadB
    rw [det_self]
    simp
  unfold aheadOk
  rw [hb]
  simp

set_option maxHeartbeats 4000000 in
theorem fnAhead_any (a : Option Addr) (len cap : Nat) (w : World) (h : Bytes w a len cap) (hg : EtOk w) :
    Calls Tryd.prog 3 #[.slice a len cap] w fun e w' => e = .returned (.bool true) ∧ Below w.heap.size w w' := by
  by_cases hl : 1048576 < len
  · have hl' : (1048576 : Int) < (len : Int) := by omega
    go_enter Tryd.func3, Tryd.ntmps3
    go_wp2
    go_returns
    exact ⟨rfl, Below.refl _ _⟩
  · have hl' : (len : Int) ≤ 1048576 := by omega
    go_enter Tryd.func3, Tryd.ntmps3
    go_wp2_with fail
    refine Calls.mono (drawVecAhead_any w a len cap h) ?_
    rintro e w0 ⟨x1, y1, x2, y2, rfl, hb0⟩
    cases k : aheadOk x1 y1 x2 y2
    · go_wp2_with fail
      refine Calls.mono (vecAhead_any x1 y1 x2 y2 _ (hg.below (by have := hb0.size; go_grown))) ?_
      rintro e w1 ⟨rfl, hb1⟩
      obtain ⟨hc1, hf1⟩ := bcell hb1; have hz1 := bsize hb1
      go_wp2_with fail
      go_call (specVecAhead_any x1 y1 x2 y2 _) as e w2 ⟨rfl, hb2⟩
      replace hb1 := belowTo hb1 hb2; clear hb2 hc1 hf1 hz1; obtain ⟨hc1, hf1⟩ := bcell hb1; have hz1 := bsize hb1
      go_wp2
      go_returns
      exact ⟨by simp, belowTo (by have := hb0.size; go_grown) hb1⟩
    · have kb := ahead_back k
      have ks := ahead_self x1 y1
      go_wp2_with fail
      refine Calls.mono (vecAhead_any x1 y1 x2 y2 _ (hg.below (by have := hb0.size; go_grown))) ?_
      rintro e w1 ⟨rfl, hb1⟩
      obtain ⟨hc1, hf1⟩ := bcell hb1; have hz1 := bsize hb1
      go_wp2_with fail
      go_call (specVecAhead_any x1 y1 x2 y2 _) as e w2 ⟨rfl, hb2⟩
      replace hb1 := belowTo hb1 hb2; clear hb2 hc1 hf1 hz1; obtain ⟨hc1, hf1⟩ := bcell hb1; have hz1 := bsize hb1
      go_wp2_with fail
      refine Calls.mono (vecAhead_any x2 y2 x1 y1 _ (hg.below (belowTo (by have := hb0.size; go_grown) hb1))) ?_
      rintro e w3 ⟨rfl, hb3⟩
      replace hb1 := belowTo hb1 hb3; clear hb3 hc1 hf1 hz1; obtain ⟨hc1, hf1⟩ := bcell hb1; have hz1 := bsize hb1
      go_wp2_with fail
      refine Calls.mono (vecAhead_any x1 y1 x1 y1 _ (hg.below (belowTo (by have := hb0.size; go_grown) hb1))) ?_
      rintro e w4 ⟨rfl, hb4⟩
      replace hb1 := belowTo hb1 hb4; clear hb4 hc1 hf1 hz1; obtain ⟨hc1, hf1⟩ := bcell hb1; have hz1 := bsize hb1
      go_wp2
      go_returns
      exact ⟨by simp, belowTo (by have := hb0.size; go_grown) hb1⟩
end Go.Proofs.YtdkdpfpfefpphaaDoor
