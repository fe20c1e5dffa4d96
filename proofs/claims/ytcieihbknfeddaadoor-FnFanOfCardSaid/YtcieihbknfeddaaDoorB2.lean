import Derived.Test.YtcieihbknfeddaaDoorB1
import Derived.Deep.RegionHeld3
import Derived.Deep.DeepCutAuto
import Derived.Handy
namespace Go.Proofs.YtcieihbknfeddaaDoor
open Go.RowKit

set_option maxHeartbeats 400000 in
theorem toVec_any (x y : Int) (w : World) :
    Calls Tryd.prog 41 #[.agg #[.int .i64 (x), .int .i64 (y)]] w fun e w' => e = .returned (.agg #[.int .i64 (x), .int .i64 (y)]) ∧ Below w.heap.size w w' := by
  go_enter Tryd.func41, Tryd.ntmps41
  go_wp2
  go_returns
  refine ⟨rfl, ?_⟩
  go_grown
set_option maxHeartbeats 400000 in
theorem inSize_any (a : Int) (w : World) :
    Calls Tryd.prog 118 #[.int .i64 a] w fun e w' => e = .returned (.bool (szB a)) ∧ w = w' := by
  unfold szB
  go_enter Tryd.func118, Tryd.ntmps118
  go_wp2
  all_goals go_returns
  all_goals (refine ⟨ret_bool ?_, rfl⟩; rw [Bool.eq_iff_iff]; simp; try omega)
set_option maxHeartbeats 400000 in
theorem l6In_any (a lo hi : Int) (w : World) :
    Calls Tryd.prog 81 #[.int .i64 a, .int .i64 lo, .int .i64 hi] w fun e w' => e = .returned (.bool (decide (lo ≤ a) && decide (a ≤ hi))) ∧ w = w' := by
  go_enter Tryd.func81, Tryd.ntmps81
  go_wp2
  all_goals go_returns
  all_goals (refine ⟨ret_bool ?_, rfl⟩; rw [Bool.eq_iff_iff]; simp; try omega)
set_option maxHeartbeats 400000 in
theorem l1Size_any (a : Int) (w : World) :
    Calls Tryd.prog 117 #[.int .i64 a] w fun e w' => e = .returned (.bool (szB a)) ∧ w = w' := by
  unfold szB
  go_enter Tryd.func117, Tryd.ntmps117
  go_wp2_with (go_at_call 81; refine (l6In_any _ _ _ _).mono ?_; rintro e w' ⟨rfl, rfl⟩)
  go_returns
  exact ⟨rfl, rfl⟩
set_option maxHeartbeats 400000 in
theorem specVecIn_any (x y : Int) (w : World) :
    Calls Tryd.prog 74 #[.agg #[.int .i64 (x), .int .i64 (y)]] w fun e w' => e = .returned (.bool (vecB x y)) ∧ Below w.heap.size w w' := by
  unfold vecB
  cases hx : szB x
  all_goals
    go_enter Tryd.func74, Tryd.ntmps74
    go_wp2_with (go_at_call 117; refine (l1Size_any _ _).mono ?_; rintro e w' ⟨rfl, rfl⟩)
    go_returns
    refine ⟨by simp, ?_⟩
    go_grown
set_option maxHeartbeats 400000 in
theorem check_in (x y : Int) (w : World) (h : vecB x y = true) :
    Calls Tryd.prog 79 #[.agg #[.int .i64 (x), .int .i64 (y)]] w fun e w' => e = .returned .nilIface ∧ Below w.heap.size w w' := by
  obtain ⟨hx, hy⟩ := vecB_true h
  clear h
  go_enter Tryd.func79, Tryd.ntmps79
  go_wp2_with (go_at_call 118; refine (inSize_any _ _).mono ?_; rintro e w' ⟨rfl, rfl⟩)
  go_returns
  refine ⟨rfl, ?_⟩
  go_grown
set_option maxHeartbeats 400000 in
theorem check_out (x y : Int) (w : World) (h : vecB x y = false) :
    Calls Tryd.prog 79 #[.agg #[.int .i64 (x), .int .i64 (y)]] w fun e w' => e = .returned (.iface 124 (.agg #[.string ⟨#[118, 101, 99, 116, 111, 114]⟩])) ∧ Below w.heap.size w w' := by
  rcases vecB_false h with hx | ⟨hx, hy⟩
  all_goals
    clear h
    go_enter Tryd.func79, Tryd.ntmps79
    go_wp2_with (go_at_call 118; refine (inSize_any _ _).mono ?_; rintro e w' ⟨rfl, rfl⟩)
    go_returns
    refine ⟨rfl, ?_⟩
    go_grown
/-! the law of VecIn -/
end Go.Proofs.YtcieihbknfeddaaDoor

namespace Go.Proofs.YtcieihbknfeddaaDoor
open Go.RowKit

/-! checkAll over two vectors -/
set_option maxHeartbeats 1000000 in
theorem checkAll_vv_in (x1 y1 x2 y2 : Int) (b : Nat) (w : World) (h1 : vecB x1 y1 = true) (h2 : vecB x2 y2 = true)
    (c0 : w.cell? ⟨b, 0, none⟩ = some (.iface 26 (.agg #[.int .i64 (x1), .int .i64 (y1)]))) (c1 : w.cell? ⟨b, 1, none⟩ = some (.iface 26 (.agg #[.int .i64 (x2), .int .i64 (y2)]))) (hb : b < w.heap.size) :
    Calls Tryd.prog 70 #[.slice (some ⟨b, 0, none⟩) 2 2] w fun e w' => e = .returned .nilIface ∧ Below w.heap.size w w' := by
  go_enter Tryd.func70, Tryd.ntmps70
  go_wp2
  refine wp_loop_rounds 3 ?_
  rw [rounds_succ]
  go_wp2_with fail
  refine (check_in x1 y1 _ h1).mono ?_
  rintro e w1 ⟨rfl, hb1⟩
  have c1' : w1.cell? ⟨b, 1, none⟩ = some (.iface 26 (.agg #[.int .i64 (x2), .int .i64 (y2)])) := (hb1.cell (p := ⟨b, 1, none⟩) hb).trans c1
  clear c0 c1
  go_wp2_with fail
  rw [rounds_succ]
  go_wp2_with fail
  refine (check_in x2 y2 _ h2).mono ?_
  rintro e w2 ⟨rfl, hb2⟩
  clear c1'
  go_wp2_with fail
  rw [rounds_succ]
  go_wp2
  go_returns
  exact ⟨rfl, belowTo hb1 hb2⟩
set_option maxHeartbeats 1000000 in
theorem checkAll_vv_out (x1 y1 x2 y2 : Int) (b : Nat) (w : World) (h : twoOk x1 y1 x2 y2 = false)
    (c0 : w.cell? ⟨b, 0, none⟩ = some (.iface 26 (.agg #[.int .i64 (x1), .int .i64 (y1)]))) (c1 : w.cell? ⟨b, 1, none⟩ = some (.iface 26 (.agg #[.int .i64 (x2), .int .i64 (y2)]))) (hb : b < w.heap.size) :
    Calls Tryd.prog 70 #[.slice (some ⟨b, 0, none⟩) 2 2] w fun e w' => e = .returned (.iface 124 (.agg #[.string ⟨#[118, 101, 99, 116, 111, 114]⟩])) ∧ Below w.heap.size w w' := by
  unfold twoOk at h
  cases h1 : vecB x1 y1
  · clear h
    go_enter Tryd.func70, Tryd.ntmps70
    go_wp2
    refine wp_loop_rounds 3 ?_
    rw [rounds_succ]
    go_wp2_with fail
    refine (check_out x1 y1 _ h1).mono ?_
    rintro e w1 ⟨rfl, hb1⟩
    clear c0 c1
    go_wp2
    go_returns
    exact ⟨rfl, hb1⟩
  · have h2 : vecB x2 y2 = false := by simpa [h1] using h
    clear h
    go_enter Tryd.func70, Tryd.ntmps70
    go_wp2
    refine wp_loop_rounds 3 ?_
    rw [rounds_succ]
    go_wp2_with fail
    refine (check_in x1 y1 _ h1).mono ?_
    rintro e w1 ⟨rfl, hb1⟩
    have c1' : w1.cell? ⟨b, 1, none⟩ = some (.iface 26 (.agg #[.int .i64 (x2), .int .i64 (y2)])) := (hb1.cell (p := ⟨b, 1, none⟩) hb).trans c1
    clear c0 c1
    go_wp2_with fail
    rw [rounds_succ]
    go_wp2_with fail
    refine (check_out x2 y2 _ h2).mono ?_
    rintro e w2 ⟨rfl, hb2⟩
    clear c1'
    go_wp2
    go_returns
    exact ⟨rfl, belowTo hb1 hb2⟩

/-! made, l1Done -/
set_option maxHeartbeats 1000000 in
theorem madeVec_any (x y : Int) (w : World) (hg : EtOk w) :
    Calls Tryd.prog 71 #[.agg #[.int .i64 (x), .int .i64 (y)]] w fun e w' => e = .returned (.tuple #[.agg #[.int .i64 (gate (vecB x y) x), .int .i64 (gate (vecB x y) y)], .bool (vecB x y)]) ∧ Below w.heap.size w w' := by
  cases h : vecB x y
  · go_enter Tryd.func71, Tryd.ntmps71
    go_wp2_with fail
    refine (check_out x y _ h).mono ?_
    rintro e w1 ⟨rfl, hb1⟩
    obtain ⟨hc1, hf1⟩ := bcell hb1; have hz1 := bsize hb1
    go_wp2_with fail
    refine (none_hit _ _ (hg.below (belowTo (by go_grown) hb1))).mono ?_
    rintro e w2 ⟨rfl, hb2⟩
    replace hb1 := belowTo hb1 hb2; clear hb2 hc1 hf1 hz1; obtain ⟨hc1, hf1⟩ := bcell hb1; have hz1 := bsize hb1
    go_wp2
    have hB := belowTo (a := w) (by go_grown) hb1; have hS := hB.size; (refine bodyPost_ret (by simp [results, Tryd.results71, go_sem, bcs hb1]; try rfl) rfl ?_); clear hb1
    exact ⟨rfl, by go_grown⟩
  · go_enter Tryd.func71, Tryd.ntmps71
    go_wp2_with fail
    refine (check_in x y _ h).mono ?_
    rintro e w1 ⟨rfl, hb1⟩
    obtain ⟨hc1, hf1⟩ := bcell hb1; have hz1 := bsize hb1
    go_wp2_with fail
    refine (none_nil _).mono ?_
    rintro e w2 ⟨rfl, hb2⟩
    replace hb1 := belowTo hb1 hb2; clear hb2 hc1 hf1 hz1; obtain ⟨hc1, hf1⟩ := bcell hb1; have hz1 := bsize hb1
    go_wp2
    have hB := belowTo (a := w) (by go_grown) hb1; have hS := hB.size; (refine bodyPost_ret (by simp [results, Tryd.results71, go_sem, bcs hb1]; try rfl) rfl ?_); clear hb1
    exact ⟨rfl, by go_grown⟩
set_option maxHeartbeats 1000000 in
theorem l1Done_any (x y : Int) (w : World) :
    Calls Tryd.prog 75 #[.agg #[.int .i64 (x), .int .i64 (y)]] w fun e w' => e = .returned (.tuple #[.agg #[.int .i64 (gate (vecB x y) x), .int .i64 (gate (vecB x y) y)], .bool (vecB x y)]) ∧ Below w.heap.size w w' := by
  cases h : vecB x y
  all_goals
    go_enter Tryd.func75, Tryd.ntmps75
    go_wp2_with fail
    refine (specVecIn_any x y _).mono ?_
    rintro e w1 ⟨rfl, hb1⟩
    obtain ⟨hc1, hf1⟩ := bcell hb1; have hz1 := bsize hb1
    go_wp2
    have hB := belowTo (a := w) (by go_grown) hb1; have hS := hB.size; (refine bodyPost_ret (by simp [results, Tryd.results75, go_sem, bcs hb1]; try rfl) rfl ?_); clear hb1
    exact ⟨rfl, by go_grown⟩
end Go.Proofs.YtcieihbknfeddaaDoor

namespace Go.Proofs.YtcieihbknfeddaaDoor
open Go.RowKit

/-! the plain methods of vectors -/
set_option maxHeartbeats 1000000 in
theorem plus_any (x1 y1 x2 y2 : Int) (w : World) (h1 : vecB x1 y1 = true) (h2 : vecB x2 y2 = true) :
    Calls Tryd.prog 133 #[.agg #[.int .i64 (x1), .int .i64 (y1)], .agg #[.int .i64 (x2), .int .i64 (y2)]] w fun e w' => e = .returned (.agg #[.int .i64 (x1 + x2), .int .i64 (y1 + y2)]) ∧ Below w.heap.size w w' := by
  obtain ⟨⟨_, _⟩, _, _⟩ := szs h1
  obtain ⟨⟨_, _⟩, _, _⟩ := szs h2
  clear h1 h2
  go_enter Tryd.func133, Tryd.ntmps133
  go_wp2
  go_returns
  exact ⟨rfl, by go_grown⟩
set_option maxHeartbeats 1000000 in
theorem times_any (x y n : Int) (w : World) (h1 : vecB x y = true) (h2 : szB n = true) :
    Calls Tryd.prog 157 #[.agg #[.int .i64 (x), .int .i64 (y)], .int .i64 n] w fun e w' => e = .returned (.agg #[.int .i64 (x * n), .int .i64 (y * n)]) ∧ Below w.heap.size w w' := by
  obtain ⟨hx, hy⟩ := szs h1
  have hn := szB_true h2
  obtain ⟨_, _⟩ := mul_bd hx hn
  obtain ⟨_, _⟩ := mul_bd hy hn
  clear h1 h2 hx hy hn
  go_enter Tryd.func157, Tryd.ntmps157
  go_wp2
  go_returns
  exact ⟨rfl, by go_grown⟩
set_option maxHeartbeats 1000000 in
theorem det_any (x1 y1 x2 y2 : Int) (w : World) (h1 : vecB x1 y1 = true) (h2 : vecB x2 y2 = true) :
    Calls Tryd.prog 148 #[.agg #[.int .i64 (x1), .int .i64 (y1)], .agg #[.int .i64 (x2), .int .i64 (y2)]] w fun e w' => e = .returned (.int .i64 (detZ x1 y1 x2 y2)) ∧ Below w.heap.size w w' := by
  obtain ⟨a1, b1⟩ := szs h1
  obtain ⟨a2, b2⟩ := szs h2
  obtain ⟨_, _⟩ := mul_bd a1 b2
  obtain ⟨_, _⟩ := mul_bd b1 a2
  clear h1 h2 a1 b1 a2 b2
  go_enter Tryd.func148, Tryd.ntmps148
  go_wp2
  go_returns
  exact ⟨rfl, by go_grown⟩
set_option maxHeartbeats 1000000 in
theorem product_any (x1 y1 x2 y2 : Int) (w : World) (h1 : vecB x1 y1 = true) (h2 : vecB x2 y2 = true) :
    Calls Tryd.prog 177 #[.agg #[.int .i64 (x1), .int .i64 (y1)], .agg #[.int .i64 (x2), .int .i64 (y2)]] w fun e w' => e = .returned (.int .i64 (dotZ x1 y1 x2 y2)) ∧ Below w.heap.size w w' := by
  obtain ⟨a1, b1⟩ := szs h1
  obtain ⟨a2, b2⟩ := szs h2
  obtain ⟨_, _⟩ := mul_bd a1 a2
  obtain ⟨_, _⟩ := mul_bd b1 b2
  clear h1 h2 a1 b1 a2 b2
  go_enter Tryd.func177, Tryd.ntmps177
  go_wp2
  go_returns
  exact ⟨rfl, by go_grown⟩
/-! VecAdd, both sides -/
end Go.Proofs.YtcieihbknfeddaaDoor

namespace Go.Proofs.YtcieihbknfeddaaDoor
open Go.RowKit

/-! eqVec at one vector twice -/
set_option maxHeartbeats 400000 in
theorem eqVec_same (x y : Int) (w : World) :
    Calls Tryd.prog 87 #[.agg #[.int .i64 (x), .int .i64 (y)], .agg #[.int .i64 (x), .int .i64 (y)]] w fun e w' => e = .returned (.bool true) ∧ Below w.heap.size w w' := by
  go_enter Tryd.func87, Tryd.ntmps87
  go_wp2
  go_returns
  exact ⟨rfl, by go_grown⟩

end Go.Proofs.YtcieihbknfeddaaDoor

namespace Go.Proofs.YtcieihbknfeddaaDoor
open Go.RowKit

/-! VecTimes -/
/-! VecDet, VecProduct -/
set_option maxHeartbeats 1000000 in
theorem l1Det_any (x1 y1 x2 y2 : Int) (w : World) (h1 : vecB x1 y1 = true) (h2 : vecB x2 y2 = true) :
    Calls Tryd.prog 84 #[.agg #[.int .i64 (x1), .int .i64 (y1)], .agg #[.int .i64 (x2), .int .i64 (y2)]] w fun e w' => e = .returned (.int .i64 (detZ x1 y1 x2 y2)) ∧ Below w.heap.size w w' := by
  obtain ⟨a1, b1⟩ := szs h1
  obtain ⟨a2, b2⟩ := szs h2
  obtain ⟨_, _⟩ := mul_bd a1 b2
  obtain ⟨_, _⟩ := mul_bd b1 a2
  clear h1 h2 a1 b1 a2 b2
  go_enter Tryd.func84, Tryd.ntmps84
  go_wp2
  go_returns
  exact ⟨rfl, by go_grown⟩
/-! VecTurn -/
end Go.Proofs.YtcieihbknfeddaaDoor

namespace Go.Proofs.YtcieihbknfeddaaDoor
open Go.RowKit

theorem ret_int {a b : Int} (h : a = b) : Ending.returned (.int .i64 a) = .returned (.int .i64 b) := by rw [h]

set_option maxHeartbeats 1000000 in
theorem commonDivisor_big (a b : Int) (w : World) (ha : -2000000 ≤ a ∧ a ≤ 2000000) (hb : -2000000 ≤ b ∧ b ≤ 2000000) :
    Calls Tryd.prog 120 #[.int .i64 a, .int .i64 b] w fun e w' => e = .returned (.int .i64 (gcdZ a b)) ∧ Below w.heap.size w w' := by
  go_enter Tryd.func120, Tryd.ntmps120
  go_wp2
  go_loopw [0, 1] (fun s0 s1 wr => ∃ x y : Int, s0 = .int .i64 x ∧ s1 = .int .i64 y ∧ gcdZ x y = gcdZ a b ∧ (-2000000 ≤ x ∧ x ≤ 2000000) ∧ (-2000000 ≤ y ∧ y ≤ 2000000) ∧ Below w.heap.size w wr) (fun _ s1 _ => (intOf s1).natAbs)
  case atStart => exact ⟨a, b, rfl, rfl, rfl, ha, hb, Below.refl _ _⟩
  case round =>
    obtain ⟨x, y, rfl, rfl, hgc, hx, hy, hB⟩ := hrel
    by_cases h0 : y = 0
    · subst h0
      rw [gcdZ_zero] at hgc
      have H := Lib.hid hgc
      clear hgc
      obtain ⟨_, _⟩ := hx
      go_wp2
      all_goals go_returns
      all_goals refine ⟨?_, hB⟩
      all_goals rw [← H.out]
      all_goals (refine ret_int ?_; omega)
    · have hm := tmod_bd (y := y) hx
      have hl := tmod_lt (x := x) h0
      have HS := Lib.hid ((gcdZ_step x y).trans hgc)
      clear hgc
      have hyb : (y == 0) = false := by simpa using h0
      have hyn : (y != 0) = true := by simpa using h0
      go_wp2
      go_region
      all_goals
        go_roundw
        case rel => exact ⟨_, _, _, _, _, _, _, _, ⟨y, x.tmod y, rfl, rfl, HS.out, hy, hm, by go_grown⟩, rfl⟩
        case measure => simpa [intOf] using hl

set_option maxHeartbeats 1000000 in
theorem l1Gcd_big (a b : Int) (w : World) (ha : -2000000 ≤ a ∧ a ≤ 2000000) (hb : -2000000 ≤ b ∧ b ≤ 2000000) :
    Calls Tryd.prog 121 #[.int .i64 a, .int .i64 b] w fun e w' => e = .returned (.int .i64 (gcdZ a b)) ∧ Below w.heap.size w w' := by
  obtain ⟨_, _⟩ := ha
  obtain ⟨_, _⟩ := hb
  go_enter Tryd.func121, Tryd.ntmps121
  go_wp2
  all_goals
    go_loopw [0, 1] (fun s0 s1 wr => ∃ x y : Int, s0 = .int .i64 x ∧ s1 = .int .i64 y ∧ gcdZ x y = gcdZ a b ∧ (0 ≤ x ∧ x ≤ 2000000) ∧ (0 ≤ y ∧ y ≤ 2000000) ∧ Below w.heap.size w wr) (fun _ s1 _ => (intOf s1).natAbs)
    case atStart => exact ⟨_, _, rfl, rfl, by simp [gcdZ], by omega, by omega, by go_grown⟩
    case round =>
      obtain ⟨x, y, rfl, rfl, hgc, hx, hy, hB⟩ := hrel
      by_cases h0 : y = 0
      · subst h0
        rw [gcdZ_zero] at hgc
        have H := Lib.hid hgc
        clear hgc
        obtain ⟨_, _⟩ := hx
        go_wp2
        go_returns
        refine ⟨?_, hB⟩
        rw [← H.out]
        refine ret_int ?_
        omega
      · have hm := tmod_bd (x := x) (y := y) (n := 2000000) ⟨by omega, hx.2⟩
        have hn : 0 ≤ x.tmod y := Int.tmod_nonneg y hx.1
        have hl := tmod_lt (x := x) h0
        have HS := Lib.hid ((gcdZ_step x y).trans hgc)
        clear hgc
        have hyb : (y == 0) = false := by simpa using h0
        have hyn : (y != 0) = true := by simpa using h0
        obtain ⟨_, _⟩ := hx
        obtain ⟨_, _⟩ := hy
        have e1 : x % y = x.tmod y := (Int.tmod_eq_emod_of_nonneg (by omega)).symm
        have E1 := Lib.hid e1
        clear e1
        go_wp2
        go_roundw
        case rel => exact ⟨y, x % y, rfl, rfl, by rw [E1.out]; exact HS.out, by omega, by rw [E1.out]; omega, by go_grown⟩
        case measure => simp only [intOf]; rw [E1.out]; exact hl
theorem commonDivisor_any (a b : Int) (w : World) (ha : -1000 ≤ a ∧ a ≤ 1000) (hb : -1000 ≤ b ∧ b ≤ 1000) :
    Calls Tryd.prog 120 #[.int .i64 a, .int .i64 b] w fun e w' => e = .returned (.int .i64 (gcdZ a b)) ∧ Below w.heap.size w w' :=
  commonDivisor_big a b w (by omega) (by omega)
theorem l1Gcd_any (a b : Int) (w : World) (ha : -1000 ≤ a ∧ a ≤ 1000) (hb : -1000 ≤ b ∧ b ≤ 1000) :
    Calls Tryd.prog 121 #[.int .i64 a, .int .i64 b] w fun e w' => e = .returned (.int .i64 (gcdZ a b)) ∧ Below w.heap.size w w' :=
  l1Gcd_big a b w (by omega) (by omega)
end Go.Proofs.YtcieihbknfeddaaDoor

namespace Go.Proofs.YtcieihbknfeddaaDoor
open Go.RowKit

set_option maxHeartbeats 1000000 in
theorem toMat_any (a b c d : Int) (w : World) :
    Calls Tryd.prog 57 #[.agg #[.int .i64 (a), .int .i64 (b), .int .i64 (c), .int .i64 (d)]] w fun e w' => e = .returned (.agg #[.int .i64 (a), .int .i64 (b), .int .i64 (c), .int .i64 (d)]) ∧ Below w.heap.size w w' := by
  go_enter Tryd.func57, Tryd.ntmps57
  go_wp2
  go_returns
  exact ⟨rfl, by go_grown⟩
set_option maxHeartbeats 1000000 in
theorem matDet_any (a b c d : Int) (w : World) (ha : szB a = true) (hb : szB b = true) (hc : szB c = true) (hd : szB d = true) :
    Calls Tryd.prog 119 #[.agg #[.int .i64 (a), .int .i64 (b), .int .i64 (c), .int .i64 (d)]] w fun e w' => e = .returned (.int .i64 (detM a b c d)) ∧ Below w.heap.size w w' := by
  obtain ⟨⟨_, _⟩, _, _⟩ := det_bd ha hb hc hd
  clear ha hb hc hd
  go_enter Tryd.func119, Tryd.ntmps119
  go_wp2
  go_returns
  exact ⟨rfl, by go_grown⟩
set_option maxHeartbeats 2000000 in
theorem matCheck_in (a b c d : Int) (w : World) (h : matB a b c d = true) :
    Calls Tryd.prog 77 #[.agg #[.int .i64 (a), .int .i64 (b), .int .i64 (c), .int .i64 (d)]] w fun e w' => e = .returned .nilIface ∧ Below w.heap.size w w' := by
  obtain ⟨⟨ha, hb, hc, hd⟩, hk⟩ := mat_in h
  clear h
  rcases det_in hk with ⟨q1, q2⟩ | ⟨q1, q2, q3, q4⟩
  all_goals
    clear hk
    go_enter Tryd.func77, Tryd.ntmps77
    go_wp2_with (go_at_call 118; refine (inSize_any _ _).mono ?_; rintro e w' ⟨rfl, rfl⟩)
    go_call (matDet_any a b c d _ ha hb hc hd) as e w1 ⟨rfl, hb1⟩
    go_wp2
    go_returns
    exact ⟨rfl, belowTo (by go_grown) hb1⟩
set_option maxHeartbeats 2000000 in
theorem matCheck_out (a b c d : Int) (w : World) (h : matB a b c d = false) :
    Calls Tryd.prog 77 #[.agg #[.int .i64 (a), .int .i64 (b), .int .i64 (c), .int .i64 (d)]] w fun e w' => e = .returned (.iface 124 (.agg #[.string ⟨#[109, 97, 116, 114, 105, 120]⟩])) ∧ Below w.heap.size w w' := by
  rcases mat_out h with hs | ⟨⟨ha, hb, hc, hd⟩, hk⟩
  · clear h
    rcases sz4_out hs with ha | ⟨ha, hb⟩ | ⟨ha, hb, hc⟩ | ⟨ha, hb, hc, hd⟩
    all_goals
      clear hs
      go_enter Tryd.func77, Tryd.ntmps77
      go_wp2_with (go_at_call 118; refine (inSize_any _ _).mono ?_; rintro e w' ⟨rfl, rfl⟩)
      go_returns
      exact ⟨rfl, by go_grown⟩
  · clear h
    obtain ⟨q1, q2, q3, q4⟩ := det_out hk
    clear hk
    go_enter Tryd.func77, Tryd.ntmps77
    go_wp2_with (go_at_call 118; refine (inSize_any _ _).mono ?_; rintro e w' ⟨rfl, rfl⟩)
    go_call (matDet_any a b c d _ ha hb hc hd) as e w1 ⟨rfl, hb1⟩
    go_wp2
    go_returns
    exact ⟨rfl, belowTo (by go_grown) hb1⟩
set_option maxHeartbeats 4000000 in
theorem specMatIn_any (a b c d : Int) (w : World) :
    Calls Tryd.prog 73 #[.agg #[.int .i64 (a), .int .i64 (b), .int .i64 (c), .int .i64 (d)]] w fun e w' => e = .returned (.bool (matB a b c d)) ∧ Below w.heap.size w w' := by
  cases h : matB a b c d
  · rcases mat_out h with hs | ⟨⟨ha, hb, hc, hd⟩, hk⟩
    · clear h
      rcases sz4_out hs with ha | ⟨ha, hb⟩ | ⟨ha, hb, hc⟩ | ⟨ha, hb, hc, hd⟩
      all_goals
        clear hs
        go_enter Tryd.func73, Tryd.ntmps73
        go_wp2_with (go_at_call 117; refine (l1Size_any _ _).mono ?_; rintro e w' ⟨rfl, rfl⟩)
        go_returns
        exact ⟨rfl, by go_grown⟩
    · clear h
      obtain ⟨q1, q2, q3, q4⟩ := det_out hk
      obtain ⟨⟨_, _⟩, _, _⟩ := det_bd ha hb hc hd
      unfold detM at q1 q2 q3 q4
      clear hk
      go_enter Tryd.func73, Tryd.ntmps73
      go_wp2_with (go_at_call 117; refine (l1Size_any _ _).mono ?_; rintro e w' ⟨rfl, rfl⟩)
      go_returns
      exact ⟨rfl, by go_grown⟩
  · obtain ⟨⟨ha, hb, hc, hd⟩, hk⟩ := mat_in h
    clear h
    obtain ⟨⟨_, _⟩, _, _⟩ := det_bd ha hb hc hd
    rcases det_in hk with ⟨q1, q2⟩ | ⟨q1, q2, q3, q4⟩
    all_goals
      unfold detM at *
      clear hk
      go_enter Tryd.func73, Tryd.ntmps73
      go_wp2_with (go_at_call 117; refine (l1Size_any _ _).mono ?_; rintro e w' ⟨rfl, rfl⟩)
      go_returns
      exact ⟨rfl, by go_grown⟩
end Go.Proofs.YtcieihbknfeddaaDoor

namespace Go.Proofs.YtcieihbknfeddaaDoor
open Go.RowKit

/-! checkAll over a matrix and a vector -/
set_option maxHeartbeats 1000000 in
theorem checkAll_mv_in (a b c d x y : Int) (B : Nat) (w : World) (h1 : matB a b c d = true) (h2 : vecB x y = true)
    (c0 : w.cell? ⟨B, 0, none⟩ = some (.iface 24 (.agg #[.int .i64 (a), .int .i64 (b), .int .i64 (c), .int .i64 (d)]))) (c1 : w.cell? ⟨B, 1, none⟩ = some (.iface 26 (.agg #[.int .i64 (x), .int .i64 (y)]))) (hB : B < w.heap.size) :
    Calls Tryd.prog 70 #[.slice (some ⟨B, 0, none⟩) 2 2] w fun e w' => e = .returned .nilIface ∧ Below w.heap.size w w' := by
  go_enter Tryd.func70, Tryd.ntmps70
  go_wp2
  refine wp_loop_rounds 3 ?_
  rw [rounds_succ]
  go_wp2_with fail
  go_call (matCheck_in a b c d _ h1) as e w1 ⟨rfl, hb1⟩
  have c1' : w1.cell? ⟨B, 1, none⟩ = some (.iface 26 (.agg #[.int .i64 (x), .int .i64 (y)])) := (hb1.cell (p := ⟨B, 1, none⟩) hB).trans c1
  clear c0 c1
  go_wp2_with fail
  rw [rounds_succ]
  go_wp2_with fail
  go_call (check_in x y _ h2) as e w2 ⟨rfl, hb2⟩
  clear c1'
  go_wp2_with fail
  rw [rounds_succ]
  go_wp2
  go_returns
  exact ⟨rfl, belowTo hb1 hb2⟩
/-- this program's own error, of whichever kind -/
def IsNone (e : Ending) : Prop := ∃ s : ByteArray, e = .returned (.iface 124 (.agg #[.string s]))
set_option maxHeartbeats 1000000 in
theorem checkAll_mv_out (a b c d x y : Int) (B : Nat) (w : World) (h : mvOk a b c d x y = false)
    (c0 : w.cell? ⟨B, 0, none⟩ = some (.iface 24 (.agg #[.int .i64 (a), .int .i64 (b), .int .i64 (c), .int .i64 (d)]))) (c1 : w.cell? ⟨B, 1, none⟩ = some (.iface 26 (.agg #[.int .i64 (x), .int .i64 (y)]))) (hB : B < w.heap.size) :
    Calls Tryd.prog 70 #[.slice (some ⟨B, 0, none⟩) 2 2] w fun e w' => IsNone e ∧ Below w.heap.size w w' := by
  unfold mvOk at h
  cases h1 : matB a b c d
  · clear h
    go_enter Tryd.func70, Tryd.ntmps70
    go_wp2
    refine wp_loop_rounds 3 ?_
    rw [rounds_succ]
    go_wp2_with fail
    go_call (matCheck_out a b c d _ h1) as e w1 ⟨rfl, hb1⟩
    clear c0 c1
    go_wp2
    go_returns
    exact ⟨⟨_, rfl⟩, hb1⟩
  · have h2 : vecB x y = false := by simpa [h1] using h
    clear h
    go_enter Tryd.func70, Tryd.ntmps70
    go_wp2
    refine wp_loop_rounds 3 ?_
    rw [rounds_succ]
    go_wp2_with fail
    go_call (matCheck_in a b c d _ h1) as e w1 ⟨rfl, hb1⟩
    have c1' : w1.cell? ⟨B, 1, none⟩ = some (.iface 26 (.agg #[.int .i64 (x), .int .i64 (y)])) := (hb1.cell (p := ⟨B, 1, none⟩) hB).trans c1
    clear c0 c1
    go_wp2_with fail
    rw [rounds_succ]
    go_wp2_with fail
    go_call (check_out x y _ h2) as e w2 ⟨rfl, hb2⟩
    clear c1'
    go_wp2
    go_returns
    exact ⟨⟨_, rfl⟩, belowTo hb1 hb2⟩
/-! where a matrix moves a vector -/
theorem move_bd {a b x y : Int} (ha : szB a = true) (hb : szB b = true) (hx : szB x = true) (hy : szB y = true) : (-1000000 ≤ a * x ∧ a * x ≤ 1000000) ∧ (-1000000 ≤ b * y ∧ b * y ≤ 1000000) :=
  ⟨mul_bd (szB_true ha) (szB_true hx), mul_bd (szB_true hb) (szB_true hy)⟩
set_option maxHeartbeats 1000000 in
theorem move_any (a b c d x y : Int) (w : World) (ha : szB a = true) (hb : szB b = true) (hc : szB c = true) (hd : szB d = true) (hx : szB x = true) (hy : szB y = true) :
    Calls Tryd.prog 72 #[.agg #[.int .i64 (a), .int .i64 (b), .int .i64 (c), .int .i64 (d)], .agg #[.int .i64 (x), .int .i64 (y)]] w fun e w' => e = .returned (.agg #[.int .i64 (moveX a b x y), .int .i64 (moveX c d x y)]) ∧ Below w.heap.size w w' := by
  obtain ⟨⟨_, _⟩, _, _⟩ := move_bd ha hb hx hy
  obtain ⟨⟨_, _⟩, _, _⟩ := move_bd hc hd hx hy
  clear ha hb hc hd hx hy
  go_enter Tryd.func72, Tryd.ntmps72
  go_wp2
  go_returns
  exact ⟨rfl, by go_grown⟩
set_option maxHeartbeats 1000000 in
theorem l1Move_any (a b c d x y : Int) (w : World) (ha : szB a = true) (hb : szB b = true) (hc : szB c = true) (hd : szB d = true) (hx : szB x = true) (hy : szB y = true) :
    Calls Tryd.prog 76 #[.agg #[.int .i64 (a), .int .i64 (b), .int .i64 (c), .int .i64 (d)], .agg #[.int .i64 (x), .int .i64 (y)]] w fun e w' => e = .returned (.agg #[.int .i64 (moveX a b x y), .int .i64 (moveX c d x y)]) ∧ Below w.heap.size w w' := by
  obtain ⟨⟨_, _⟩, _, _⟩ := move_bd ha hb hx hy
  obtain ⟨⟨_, _⟩, _, _⟩ := move_bd hc hd hx hy
  clear ha hb hc hd hx hy
  go_enter Tryd.func76, Tryd.ntmps76
  go_wp2
  go_returns
  exact ⟨rfl, by go_grown⟩

set_option maxHeartbeats 2000000 in
theorem matMove_any (a b c d x y : Int) (w : World) (hg : EtOk w) :
    Calls Tryd.prog 20 #[.agg #[.int .i64 (a), .int .i64 (b), .int .i64 (c), .int .i64 (d)], .agg #[.int .i64 (x), .int .i64 (y)]] w fun e w' => e = .returned (.tuple #[.agg #[.int .i64 (gate (moveOk a b c d x y) (moveX a b x y)), .int .i64 (gate (moveOk a b c d x y) (moveX c d x y))], .bool (moveOk a b c d x y)]) ∧ Below w.heap.size w w' := by
  unfold moveOk
  cases h : mvOk a b c d x y
  · have hk : (matB a b c d && (vecB x y && vecB (moveX a b x y) (moveX c d x y))) = false := by
      cases h1 : matB a b c d
      · rfl
      · have h2 : vecB x y = false := by simpa [mvOk, h1] using h
        rw [h2]; rfl
    rw [hk]
    clear hk
    go_enter Tryd.func20, Tryd.ntmps20
    go_wp2_with fail
    go_call (checkAll_mv_out a b c d x y _ _ h) as e w1 ⟨⟨s, rfl⟩, hb1⟩
    obtain ⟨hc1, hf1⟩ := bcell hb1; have hz1 := bsize hb1
    (go_wp2_with fail; go_call (none_hit _ _ (hg.below (belowTo (a := w) (by go_grown) hb1))) as e w2 ⟨rfl, hb2⟩); replace hb1 := belowTo hb1 hb2; clear hb2 hc1 hf1 hz1; obtain ⟨hc1, hf1⟩ := bcell hb1; have hz1 := bsize hb1
    go_wp2
    have hB := belowTo (a := w) (by go_grown) hb1; have hS := hB.size; (refine bodyPost_ret (by simp [results, Tryd.results20, go_sem, bcs hb1]; try rfl) rfl ?_); clear hb1
    exact ⟨rfl, by go_grown⟩
  · have h12 : matB a b c d = true ∧ vecB x y = true := by simpa [mvOk] using h
    obtain ⟨h1, h2⟩ := h12
    clear h
    rw [h1, h2]
    obtain ⟨⟨ha, hb, hc, hd⟩, _⟩ := mat_in h1
    obtain ⟨hx, hy⟩ := vecB_true h2
    go_enter Tryd.func20, Tryd.ntmps20
    (go_wp2_with fail; go_call (checkAll_mv_in a b c d x y _ _ h1 h2) as e w1 ⟨rfl, hb1⟩); obtain ⟨hc1, hf1⟩ := bcell hb1; have hz1 := bsize hb1
    (go_wp2_with fail; go_call (none_nil _) as e w2 ⟨rfl, hb2⟩); replace hb1 := belowTo hb1 hb2; clear hb2 hc1 hf1 hz1; obtain ⟨hc1, hf1⟩ := bcell hb1; have hz1 := bsize hb1
    (go_wp2_with fail; go_call (move_any a b c d x y _ ha hb hc hd hx hy) as e w2 ⟨rfl, hb2⟩); replace hb1 := belowTo hb1 hb2; clear hb2 hc1 hf1 hz1; obtain ⟨hc1, hf1⟩ := bcell hb1; have hz1 := bsize hb1
    (go_wp2_with fail; go_call (madeVec_any (moveX a b x y) (moveX c d x y) _ (hg.below (belowTo (a := w) (by go_grown) hb1))) as e w2 ⟨rfl, hb2⟩); replace hb1 := belowTo hb1 hb2; clear hb2 hc1 hf1 hz1; obtain ⟨hc1, hf1⟩ := bcell hb1; have hz1 := bsize hb1
    go_wp2
    have hB := belowTo (a := w) (by go_grown) hb1; have hS := hB.size; (refine bodyPost_ret (by simp [results, Tryd.results20, go_sem, bcs hb1]; try rfl) rfl ?_); clear hb1
    exact ⟨rfl, by go_grown⟩
set_option maxHeartbeats 2000000 in
theorem specMatMove_any (a b c d x y : Int) (w : World) :
    Calls Tryd.prog 21 #[.agg #[.int .i64 (a), .int .i64 (b), .int .i64 (c), .int .i64 (d)], .agg #[.int .i64 (x), .int .i64 (y)]] w fun e w' => e = .returned (.tuple #[.agg #[.int .i64 (gate (moveOk a b c d x y) (moveX a b x y)), .int .i64 (gate (moveOk a b c d x y) (moveX c d x y))], .bool (moveOk a b c d x y)]) ∧ Below w.heap.size w w' := by
  unfold moveOk
  cases h1 : matB a b c d
  · go_enter Tryd.func21, Tryd.ntmps21
    (go_wp2_with fail; go_call (specMatIn_any a b c d _) as e w1 ⟨rfl, hb1⟩); obtain ⟨hc1, hf1⟩ := bcell hb1; have hz1 := bsize hb1
    go_wp2
    have hB := belowTo (a := w) (by go_grown) hb1; have hS := hB.size; (refine bodyPost_ret (by simp [results, Tryd.results21, go_sem, bcs hb1]; try rfl) rfl ?_); clear hb1
    exact ⟨rfl, by go_grown⟩
  · cases h2 : vecB x y
    · go_enter Tryd.func21, Tryd.ntmps21
      (go_wp2_with fail; go_call (specMatIn_any a b c d _) as e w1 ⟨rfl, hb1⟩); obtain ⟨hc1, hf1⟩ := bcell hb1; have hz1 := bsize hb1
      (go_wp2_with fail; go_call (specVecIn_any x y _) as e w2 ⟨rfl, hb2⟩); replace hb1 := belowTo hb1 hb2; clear hb2 hc1 hf1 hz1; obtain ⟨hc1, hf1⟩ := bcell hb1; have hz1 := bsize hb1
      go_wp2
      have hB := belowTo (a := w) (by go_grown) hb1; have hS := hB.size; (refine bodyPost_ret (by simp [results, Tryd.results21, go_sem, bcs hb1]; try rfl) rfl ?_); clear hb1
      exact ⟨rfl, by go_grown⟩
    · obtain ⟨⟨ha, hb, hc, hd⟩, _⟩ := mat_in h1
      obtain ⟨hx, hy⟩ := vecB_true h2
      go_enter Tryd.func21, Tryd.ntmps21
      (go_wp2_with fail; go_call (specMatIn_any a b c d _) as e w1 ⟨rfl, hb1⟩); obtain ⟨hc1, hf1⟩ := bcell hb1; have hz1 := bsize hb1
      (go_wp2_with fail; go_call (specVecIn_any x y _) as e w2 ⟨rfl, hb2⟩); replace hb1 := belowTo hb1 hb2; clear hb2 hc1 hf1 hz1; obtain ⟨hc1, hf1⟩ := bcell hb1; have hz1 := bsize hb1
      (go_wp2_with fail; go_call (l1Move_any a b c d x y _ ha hb hc hd hx hy) as e w2 ⟨rfl, hb2⟩); replace hb1 := belowTo hb1 hb2; clear hb2 hc1 hf1 hz1; obtain ⟨hc1, hf1⟩ := bcell hb1; have hz1 := bsize hb1
      (go_wp2_with fail; go_call (l1Done_any (moveX a b x y) (moveX c d x y) _) as e w2 ⟨rfl, hb2⟩); replace hb1 := belowTo hb1 hb2; clear hb2 hc1 hf1 hz1; obtain ⟨hc1, hf1⟩ := bcell hb1; have hz1 := bsize hb1
      go_wp2
      have hB := belowTo (a := w) (by go_grown) hb1; have hS := hB.size; (refine bodyPost_ret (by simp [results, Tryd.results21, go_sem, bcs hb1]; try rfl) rfl ?_); clear hb1
      exact ⟨rfl, by go_grown⟩
end Go.Proofs.YtcieihbknfeddaaDoor

namespace Go.Proofs.YtcieihbknfeddaaDoor
open Go.RowKit

/-! VecAhead -/
def backB (x y : Int) : Bool := decide (y < 0) || (decide (y = 0) && decide (x < 0))
def frontB (x y : Int) : Bool := decide (0 < y) || (decide (y = 0) && decide (0 < x))
theorem front_back {x y : Int} (h : nzB x y = true) : frontB x y = !backB x y := by
  have h' : ¬ (x = 0 ∧ y = 0) := by rintro ⟨rfl, rfl⟩; simp [nzB] at h
  rw [Bool.eq_iff_iff]
  simp [frontB, backB]
  omega
def halfN (x y : Int) : Int := if frontB x y then 0 else 1
/-- the order of two directions that are not 0 -/
def aheadB (x1 y1 x2 y2 : Int) : Bool := if backB x1 y1 == backB x2 y2 then decide (0 < detZ x1 y1 x2 y2) else backB x2 y2
def aheadOk (x1 y1 x2 y2 : Int) : Bool := twoOk x1 y1 x2 y2 && (nzB x1 y1 && (nzB x2 y2 && aheadB x1 y1 x2 y2))

set_option maxHeartbeats 1000000 in
theorem inSecondHalf_any (x y : Int) (w : World) :
    Calls Tryd.prog 147 #[.agg #[.int .i64 (x), .int .i64 (y)]] w fun e w' => e = .returned (.bool (backB x y)) ∧ Below w.heap.size w w' := by
  go_enter Tryd.func147, Tryd.ntmps147
  go_wp2
  all_goals go_returns
  all_goals refine ⟨?_, by go_grown⟩
  all_goals (refine ret_bool ?_; rw [Bool.eq_iff_iff]; simp [backB]; try omega)
set_option maxHeartbeats 1000000 in
theorem l1Half_any (x y : Int) (w : World) :
    Calls Tryd.prog 122 #[.agg #[.int .i64 (x), .int .i64 (y)]] w fun e w' => e = .returned (.int .i64 (halfN x y)) ∧ Below w.heap.size w w' := by
  go_enter Tryd.func122, Tryd.ntmps122
  go_wp2
  all_goals go_returns
  all_goals refine ⟨?_, by go_grown⟩
  all_goals (refine ret_int ?_; unfold halfN; simp [frontB]; try omega)

set_option linter.unusedSimpArgs false in
set_option maxHeartbeats 2000000 in
theorem ahead_any (x1 y1 x2 y2 : Int) (w : World) (h1 : vecB x1 y1 = true) (h2 : vecB x2 y2 = true) :
    Calls Tryd.prog 124 #[.agg #[.int .i64 (x1), .int .i64 (y1)], .agg #[.int .i64 (x2), .int .i64 (y2)]] w fun e w' => e = .returned (.bool (aheadB x1 y1 x2 y2)) ∧ Below w.heap.size w w' := by
  unfold aheadB
  cases k1 : backB x1 y1 <;> cases k2 : backB x2 y2
  all_goals
    go_enter Tryd.func124, Tryd.ntmps124
    go_upto_region 1 with fail
    obtain ⟨W0, hW⟩ : ∃ W9, W9 = (w.alloc (.cells #[.int .i64 x1, .int .i64 y1] 26)).alloc (.cells #[.int .i64 x2, .int .i64 y2] 26) := ⟨_, rfl⟩; have c0 : W0.cell? ⟨w.heap.size, 0, none⟩ = some (.int .i64 (x1)) := (by rw [hW]; first | (simp; done) | (rw [World.cell?_alloc_lt _ _ ⟨_, _, none⟩ (by simp only [World.size_alloc]; omega)]; simp; done) | (rw [World.cell?_alloc_at _ _ _ _ (by simp only [World.size_alloc])]; simp)); have c1 : W0.cell? ⟨w.heap.size, 1, none⟩ = some (.int .i64 (y1)) := (by rw [hW]; first | (simp; done) | (rw [World.cell?_alloc_lt _ _ ⟨_, _, none⟩ (by simp only [World.size_alloc]; omega)]; simp; done) | (rw [World.cell?_alloc_at _ _ _ _ (by simp only [World.size_alloc])]; simp)); have c2 : W0.cell? ⟨w.heap.size + 1, 0, none⟩ = some (.int .i64 (x2)) := (by rw [hW]; first | (simp; done) | (rw [World.cell?_alloc_lt _ _ ⟨_, _, none⟩ (by simp only [World.size_alloc]; omega)]; simp; done) | (rw [World.cell?_alloc_at _ _ _ _ (by simp only [World.size_alloc])]; simp)); have c3 : W0.cell? ⟨w.heap.size + 1, 1, none⟩ = some (.int .i64 (y2)) := (by rw [hW]; first | (simp; done) | (rw [World.cell?_alloc_lt _ _ ⟨_, _, none⟩ (by simp only [World.size_alloc]; omega)]; simp; done) | (rw [World.cell?_alloc_at _ _ _ _ (by simp only [World.size_alloc])]; simp)); have z0 : W0.frozen? ⟨w.heap.size, 0, none⟩ = false := (by rw [hW]; first | (simp; done) | (rw [World.frozen?_alloc_old _ _ ⟨_, _, none⟩ (by simp only [World.size_alloc]; omega)]; simp; done) | (rw [World.frozen?_alloc_at _ _ _ _ (by simp only [World.size_alloc])])); have z1 : W0.frozen? ⟨w.heap.size, 1, none⟩ = false := (by rw [hW]; first | (simp; done) | (rw [World.frozen?_alloc_old _ _ ⟨_, _, none⟩ (by simp only [World.size_alloc]; omega)]; simp; done) | (rw [World.frozen?_alloc_at _ _ _ _ (by simp only [World.size_alloc])])); have z2 : W0.frozen? ⟨w.heap.size + 1, 0, none⟩ = false := (by rw [hW]; first | (simp; done) | (rw [World.frozen?_alloc_old _ _ ⟨_, _, none⟩ (by simp only [World.size_alloc]; omega)]; simp; done) | (rw [World.frozen?_alloc_at _ _ _ _ (by simp only [World.size_alloc])])); have z3 : W0.frozen? ⟨w.heap.size + 1, 1, none⟩ = false := (by rw [hW]; first | (simp; done) | (rw [World.frozen?_alloc_old _ _ ⟨_, _, none⟩ (by simp only [World.size_alloc]; omega)]; simp; done) | (rw [World.frozen?_alloc_at _ _ _ _ (by simp only [World.size_alloc])])); have hB0 : Below w.heap.size w W0 := (by rw [hW]; go_grown); have hs0 : w.heap.size < W0.heap.size := (by rw [hW]; simp only [World.size_alloc]; omega); have hs1 : w.heap.size + 1 < W0.heap.size := (by rw [hW]; simp only [World.size_alloc]; omega); rw [← hW]; clear hW
    go_region_held3 (fun w' => w'.cell? ⟨w.heap.size, 0, none⟩ = some (.int .i64 (x1)) ∧ w'.cell? ⟨w.heap.size, 1, none⟩ = some (.int .i64 (y1)) ∧ w'.cell? ⟨w.heap.size + 1, 0, none⟩ = some (.int .i64 (x2)) ∧ w'.cell? ⟨w.heap.size + 1, 1, none⟩ = some (.int .i64 (y2)) ∧ Below W0.heap.size W0 w') ((refine (fun hS => ⟨(hS.cell (p := ⟨w.heap.size, 0, none⟩) hs0).trans c0, (hS.cell (p := ⟨w.heap.size, 1, none⟩) hs0).trans c1, (hS.cell (p := ⟨w.heap.size + 1, 0, none⟩) hs1).trans c2, (hS.cell (p := ⟨w.heap.size + 1, 1, none⟩) hs1).trans c3, hS⟩) (?_ : Below W0.heap.size W0 _); first | (go_grown; done))) (first | (go_at_call 147; go_call (inSecondHalf_any _ _ _) as e w1 ⟨rfl, hb0⟩; have hT : Below W0.heap.size W0 w1 := belowTo (by go_split_ands; assumption) hb0; have hTs := hT.size; (first | have hb1 := belowTo (by assumption) hb0 | have hb1 := hb0); obtain ⟨hc1, hf1⟩ := bcell hb1; have hz1 := bsize hb1; have hbs := hb0.size; (try simp only [World.size_alloc, World.size_drew, Nat.add_one_le_iff] at hbs); (try have t1 : W0.heap.size < w1.heap.size := (by omega)); (try have t2 : ¬ W0.heap.size = w1.heap.size := (by omega)); (try have t3 : ¬ w1.heap.size = W0.heap.size := (by omega))))
    go_wp2_with fail
    first
      | (go_returns; exact ⟨rfl, belowTo hB0.drew hb1⟩)
      | (go_call (inSecondHalf_any _ _ _) as e w2 ⟨rfl, hb2⟩; go_wp2; go_returns; exact ⟨rfl, belowTo (belowTo hB0.drew hb1) hb2⟩)
      | (go_call (det_any x1 y1 x2 y2 _ h1 h2) as e w2 ⟨rfl, hb2⟩; go_wp2; go_returns; exact ⟨rfl, belowTo (belowTo hB0.drew hb1) hb2⟩)

theorem half_back {x y : Int} (h : nzB x y = true) (k : backB x y = true) : halfN x y = 1 := by
  unfold halfN
  rw [front_back h, k]; rfl
theorem half_front {x y : Int} (h : nzB x y = true) (k : backB x y = false) : halfN x y = 0 := by
  unfold halfN
  rw [front_back h, k]; rfl
theorem half_is {x y : Int} (h : nzB x y = true) : (backB x y = true ∧ halfN x y = 1) ∨ (backB x y = false ∧ halfN x y = 0) := by
  cases k : backB x y
  · exact .inr ⟨rfl, half_front h k⟩
  · exact .inl ⟨rfl, half_back h k⟩
theorem nz_cases {x y : Int} (h : nzB x y = true) : (x == 0) = false ∨ ((x == 0) = true ∧ (y == 0) = false) := by
  cases hx : (x == 0) <;> cases hy : (y == 0) <;> simp [nzB, hx, hy] at h ⊢
theorem z_cases {x y : Int} (h : nzB x y = false) : (x == 0) = true ∧ (y == 0) = true := by
  cases hx : (x == 0) <;> cases hy : (y == 0) <;> simp [nzB, hx, hy] at h ⊢

set_option linter.unusedSimpArgs false in
set_option maxHeartbeats 4000000 in
theorem l1Ahead_any (x1 y1 x2 y2 : Int) (w : World) (h1 : vecB x1 y1 = true) (h2 : vecB x2 y2 = true) (n1 : nzB x1 y1 = true) (n2 : nzB x2 y2 = true) :
    Calls Tryd.prog 85 #[.agg #[.int .i64 (x1), .int .i64 (y1)], .agg #[.int .i64 (x2), .int .i64 (y2)]] w fun e w' => e = .returned (.bool (aheadB x1 y1 x2 y2)) ∧ Below w.heap.size w w' := by
  unfold aheadB
  rcases half_is n1 with ⟨k1, e1⟩ | ⟨k1, e1⟩ <;> rcases half_is n2 with ⟨k2, e2⟩ | ⟨k2, e2⟩
  all_goals
    rw [k1, k2]
    go_enter Tryd.func85, Tryd.ntmps85
    go_upto_region 1 with fail
    obtain ⟨W0, hW⟩ : ∃ W9, W9 = (w.alloc (.cells #[.int .i64 x1, .int .i64 y1] 26)).alloc (.cells #[.int .i64 x2, .int .i64 y2] 26) := ⟨_, rfl⟩; have c0 : W0.cell? ⟨w.heap.size, 0, none⟩ = some (.int .i64 (x1)) := (by rw [hW]; first | (simp; done) | (rw [World.cell?_alloc_lt _ _ ⟨_, _, none⟩ (by simp only [World.size_alloc]; omega)]; simp; done) | (rw [World.cell?_alloc_at _ _ _ _ (by simp only [World.size_alloc])]; simp)); have c1 : W0.cell? ⟨w.heap.size, 1, none⟩ = some (.int .i64 (y1)) := (by rw [hW]; first | (simp; done) | (rw [World.cell?_alloc_lt _ _ ⟨_, _, none⟩ (by simp only [World.size_alloc]; omega)]; simp; done) | (rw [World.cell?_alloc_at _ _ _ _ (by simp only [World.size_alloc])]; simp)); have c2 : W0.cell? ⟨w.heap.size + 1, 0, none⟩ = some (.int .i64 (x2)) := (by rw [hW]; first | (simp; done) | (rw [World.cell?_alloc_lt _ _ ⟨_, _, none⟩ (by simp only [World.size_alloc]; omega)]; simp; done) | (rw [World.cell?_alloc_at _ _ _ _ (by simp only [World.size_alloc])]; simp)); have c3 : W0.cell? ⟨w.heap.size + 1, 1, none⟩ = some (.int .i64 (y2)) := (by rw [hW]; first | (simp; done) | (rw [World.cell?_alloc_lt _ _ ⟨_, _, none⟩ (by simp only [World.size_alloc]; omega)]; simp; done) | (rw [World.cell?_alloc_at _ _ _ _ (by simp only [World.size_alloc])]; simp)); have z0 : W0.frozen? ⟨w.heap.size, 0, none⟩ = false := (by rw [hW]; first | (simp; done) | (rw [World.frozen?_alloc_old _ _ ⟨_, _, none⟩ (by simp only [World.size_alloc]; omega)]; simp; done) | (rw [World.frozen?_alloc_at _ _ _ _ (by simp only [World.size_alloc])])); have z1 : W0.frozen? ⟨w.heap.size, 1, none⟩ = false := (by rw [hW]; first | (simp; done) | (rw [World.frozen?_alloc_old _ _ ⟨_, _, none⟩ (by simp only [World.size_alloc]; omega)]; simp; done) | (rw [World.frozen?_alloc_at _ _ _ _ (by simp only [World.size_alloc])])); have z2 : W0.frozen? ⟨w.heap.size + 1, 0, none⟩ = false := (by rw [hW]; first | (simp; done) | (rw [World.frozen?_alloc_old _ _ ⟨_, _, none⟩ (by simp only [World.size_alloc]; omega)]; simp; done) | (rw [World.frozen?_alloc_at _ _ _ _ (by simp only [World.size_alloc])])); have z3 : W0.frozen? ⟨w.heap.size + 1, 1, none⟩ = false := (by rw [hW]; first | (simp; done) | (rw [World.frozen?_alloc_old _ _ ⟨_, _, none⟩ (by simp only [World.size_alloc]; omega)]; simp; done) | (rw [World.frozen?_alloc_at _ _ _ _ (by simp only [World.size_alloc])])); have hB0 : Below w.heap.size w W0 := (by rw [hW]; go_grown); have hs0 : w.heap.size < W0.heap.size := (by rw [hW]; simp only [World.size_alloc]; omega); have hs1 : w.heap.size + 1 < W0.heap.size := (by rw [hW]; simp only [World.size_alloc]; omega); rw [← hW]; clear hW
    go_region_held3 (fun w' => w'.cell? ⟨w.heap.size, 0, none⟩ = some (.int .i64 (x1)) ∧ w'.cell? ⟨w.heap.size, 1, none⟩ = some (.int .i64 (y1)) ∧ w'.cell? ⟨w.heap.size + 1, 0, none⟩ = some (.int .i64 (x2)) ∧ w'.cell? ⟨w.heap.size + 1, 1, none⟩ = some (.int .i64 (y2)) ∧ Below W0.heap.size W0 w') ((refine (fun hS => ⟨(hS.cell (p := ⟨w.heap.size, 0, none⟩) hs0).trans c0, (hS.cell (p := ⟨w.heap.size, 1, none⟩) hs0).trans c1, (hS.cell (p := ⟨w.heap.size + 1, 0, none⟩) hs1).trans c2, (hS.cell (p := ⟨w.heap.size + 1, 1, none⟩) hs1).trans c3, hS⟩) (?_ : Below W0.heap.size W0 _); first | (go_grown; done))) (first | (go_at_call 122; go_call (l1Half_any _ _ _) as e w1 ⟨rfl, hb0⟩; have hT : Below W0.heap.size W0 w1 := belowTo (by go_split_ands; assumption) hb0; have hTs := hT.size; (first | have hb1 := belowTo (by assumption) hb0 | have hb1 := hb0); obtain ⟨hc1, hf1⟩ := bcell hb1; have hz1 := bsize hb1; have hbs := hb0.size; (try simp only [World.size_alloc, World.size_drew, Nat.add_one_le_iff] at hbs); (try have t1 : W0.heap.size < w1.heap.size := (by omega)); (try have t2 : ¬ W0.heap.size = w1.heap.size := (by omega)); (try have t3 : ¬ w1.heap.size = W0.heap.size := (by omega))))
    all_goals go_wp2_with fail
    all_goals first
      | (go_call (l1Det_any x1 y1 x2 y2 _ h1 h2) as e w2 ⟨rfl, hb2⟩; go_wp2; go_returns; exact ⟨rfl, belowTo (belowTo hB0 hT) hb2⟩)
      | (go_region_held3 (fun w' => w'.cell? ⟨w.heap.size, 0, none⟩ = some (.int .i64 (x1)) ∧ w'.cell? ⟨w.heap.size, 1, none⟩ = some (.int .i64 (y1)) ∧ w'.cell? ⟨w.heap.size + 1, 0, none⟩ = some (.int .i64 (x2)) ∧ w'.cell? ⟨w.heap.size + 1, 1, none⟩ = some (.int .i64 (y2)) ∧ Below W0.heap.size W0 w') ((refine (fun hS => ⟨(hS.cell (p := ⟨w.heap.size, 0, none⟩) hs0).trans c0, (hS.cell (p := ⟨w.heap.size, 1, none⟩) hs0).trans c1, (hS.cell (p := ⟨w.heap.size + 1, 0, none⟩) hs1).trans c2, (hS.cell (p := ⟨w.heap.size + 1, 1, none⟩) hs1).trans c3, hS⟩) (?_ : Below W0.heap.size W0 _); first | (go_grown; done))) (first | (go_at_call 122; go_call (l1Half_any _ _ _) as e w1 ⟨rfl, hb0⟩; have hT : Below W0.heap.size W0 w1 := belowTo (by go_split_ands; assumption) hb0; have hTs := hT.size; (first | have hb1 := belowTo (by assumption) hb0 | have hb1 := hb0); obtain ⟨hc1, hf1⟩ := bcell hb1; have hz1 := bsize hb1; have hbs := hb0.size; (try simp only [World.size_alloc, World.size_drew, Nat.add_one_le_iff] at hbs); (try have t1 : W0.heap.size < w1.heap.size := (by omega)); (try have t2 : ¬ W0.heap.size = w1.heap.size := (by omega)); (try have t3 : ¬ w1.heap.size = W0.heap.size := (by omega)))); all_goals (go_wp2; go_returns; exact ⟨rfl, belowTo hB0 hT⟩))

end Go.Proofs.YtcieihbknfeddaaDoor
