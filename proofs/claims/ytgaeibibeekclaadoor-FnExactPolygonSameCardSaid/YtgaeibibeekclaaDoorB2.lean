import Derived.Test.YtgaeibibeekclaaDoorB1
import Derived.Deep.RegionHeld3
import Derived.Deep.DeepCutAuto
import Derived.Handy
namespace Go.Proofs.YtgaeibibeekclaaDoor
open Go.RowKit

set_option maxHeartbeats 400000 in
theorem toVec_any (x y : Int) (w : World) :
    Calls Tryd.prog 59 #[.agg #[.int .i64 (x), .int .i64 (y)]] w fun e w' => e = .returned (.agg #[.int .i64 (x), .int .i64 (y)]) ∧ Below w.heap.size w w' := by
  go_enter Tryd.func59, Tryd.ntmps59
  go_wp2
  go_returns
  refine ⟨rfl, ?_⟩
  go_grown
set_option maxHeartbeats 400000 in
theorem inSize_any (a : Int) (w : World) :
    Calls Tryd.prog 92 #[.int .i64 a] w fun e w' => e = .returned (.bool (szB a)) ∧ w = w' := by
  unfold szB
  go_enter Tryd.func92, Tryd.ntmps92
  go_wp2
  all_goals go_returns
  all_goals (refine ⟨ret_bool ?_, rfl⟩; rw [Bool.eq_iff_iff]; simp; try omega)
set_option maxHeartbeats 400000 in
theorem l6In_any (a lo hi : Int) (w : World) :
    Calls Tryd.prog 46 #[.int .i64 a, .int .i64 lo, .int .i64 hi] w fun e w' => e = .returned (.bool (decide (lo ≤ a) && decide (a ≤ hi))) ∧ w = w' := by
  go_enter Tryd.func46, Tryd.ntmps46
  go_wp2
  all_goals go_returns
  all_goals (refine ⟨ret_bool ?_, rfl⟩; rw [Bool.eq_iff_iff]; simp; try omega)
set_option maxHeartbeats 400000 in
theorem l1Size_any (a : Int) (w : World) :
    Calls Tryd.prog 81 #[.int .i64 a] w fun e w' => e = .returned (.bool (szB a)) ∧ w = w' := by
  unfold szB
  go_enter Tryd.func81, Tryd.ntmps81
  go_wp2_with (go_at_call 46; refine (l6In_any _ _ _ _).mono ?_; rintro e w' ⟨rfl, rfl⟩)
  go_returns
  exact ⟨rfl, rfl⟩
set_option maxHeartbeats 400000 in
theorem specVecIn_any (x y : Int) (w : World) :
    Calls Tryd.prog 56 #[.agg #[.int .i64 (x), .int .i64 (y)]] w fun e w' => e = .returned (.bool (vecB x y)) ∧ Below w.heap.size w w' := by
  unfold vecB
  cases hx : szB x
  all_goals
    go_enter Tryd.func56, Tryd.ntmps56
    go_wp2_with (go_at_call 81; refine (l1Size_any _ _).mono ?_; rintro e w' ⟨rfl, rfl⟩)
    go_returns
    refine ⟨by simp, ?_⟩
    go_grown
set_option maxHeartbeats 400000 in
theorem check_in (x y : Int) (w : World) (h : vecB x y = true) :
    Calls Tryd.prog 75 #[.agg #[.int .i64 (x), .int .i64 (y)]] w fun e w' => e = .returned .nilIface ∧ Below w.heap.size w w' := by
  obtain ⟨hx, hy⟩ := vecB_true h
  clear h
  go_enter Tryd.func75, Tryd.ntmps75
  go_wp2_with (go_at_call 92; refine (inSize_any _ _).mono ?_; rintro e w' ⟨rfl, rfl⟩)
  go_returns
  refine ⟨rfl, ?_⟩
  go_grown
set_option maxHeartbeats 400000 in
theorem check_out (x y : Int) (w : World) (h : vecB x y = false) :
    Calls Tryd.prog 75 #[.agg #[.int .i64 (x), .int .i64 (y)]] w fun e w' => e = .returned (.iface 80 (.agg #[.string ⟨#[118, 101, 99, 116, 111, 114]⟩])) ∧ Below w.heap.size w w' := by
  rcases vecB_false h with hx | ⟨hx, hy⟩
  all_goals
    clear h
    go_enter Tryd.func75, Tryd.ntmps75
    go_wp2_with (go_at_call 92; refine (inSize_any _ _).mono ?_; rintro e w' ⟨rfl, rfl⟩)
    go_returns
    refine ⟨rfl, ?_⟩
    go_grown
/-! the law of VecIn -/
end Go.Proofs.YtgaeibibeekclaaDoor

namespace Go.Proofs.YtgaeibibeekclaaDoor
open Go.RowKit

/-! checkAll over two vectors -/
set_option maxHeartbeats 1000000 in
theorem checkAll_vv_in (x1 y1 x2 y2 : Int) (b : Nat) (w : World) (h1 : vecB x1 y1 = true) (h2 : vecB x2 y2 = true)
    (c0 : w.cell? ⟨b, 0, none⟩ = some (.iface 31 (.agg #[.int .i64 (x1), .int .i64 (y1)]))) (c1 : w.cell? ⟨b, 1, none⟩ = some (.iface 31 (.agg #[.int .i64 (x2), .int .i64 (y2)]))) (hb : b < w.heap.size) :
    Calls Tryd.prog 34 #[.slice (some ⟨b, 0, none⟩) 2 2] w fun e w' => e = .returned .nilIface ∧ Below w.heap.size w w' := by
  go_enter Tryd.func34, Tryd.ntmps34
  go_wp2
  refine wp_loop_rounds 3 ?_
  rw [rounds_succ]
  go_wp2_with fail
  refine (check_in x1 y1 _ h1).mono ?_
  rintro e w1 ⟨rfl, hb1⟩
  have c1' : w1.cell? ⟨b, 1, none⟩ = some (.iface 31 (.agg #[.int .i64 (x2), .int .i64 (y2)])) := (hb1.cell (p := ⟨b, 1, none⟩) hb).trans c1
  clear c0 c1
  go_wp2_with fail
  rw [rounds_succ]
  go_wp2_with fail
  refine (check_in x2 y2 _ h2).mono ?_
  rintro e w2 ⟨rfl, hb2⟩
  clear c1'
  go_wp2_with fail
  rw [rounds_succ]
  go_wp2
  go_returns
  exact ⟨rfl, belowTo hb1 hb2⟩
set_option maxHeartbeats 1000000 in
theorem checkAll_vv_out (x1 y1 x2 y2 : Int) (b : Nat) (w : World) (h : twoOk x1 y1 x2 y2 = false)
    (c0 : w.cell? ⟨b, 0, none⟩ = some (.iface 31 (.agg #[.int .i64 (x1), .int .i64 (y1)]))) (c1 : w.cell? ⟨b, 1, none⟩ = some (.iface 31 (.agg #[.int .i64 (x2), .int .i64 (y2)]))) (hb : b < w.heap.size) :
    Calls Tryd.prog 34 #[.slice (some ⟨b, 0, none⟩) 2 2] w fun e w' => e = .returned (.iface 80 (.agg #[.string ⟨#[118, 101, 99, 116, 111, 114]⟩])) ∧ Below w.heap.size w w' := by
  unfold twoOk at h
  cases h1 : vecB x1 y1
  · clear h
    go_enter Tryd.func34, Tryd.ntmps34
    go_wp2
    refine wp_loop_rounds 3 ?_
    rw [rounds_succ]
    go_wp2_with fail
    refine (check_out x1 y1 _ h1).mono ?_
    rintro e w1 ⟨rfl, hb1⟩
    clear c0 c1
    go_wp2
    go_returns
    exact ⟨rfl, hb1⟩
  · have h2 : vecB x2 y2 = false := by simpa [h1] using h
    clear h
    go_enter Tryd.func34, Tryd.ntmps34
    go_wp2
    refine wp_loop_rounds 3 ?_
    rw [rounds_succ]
    go_wp2_with fail
    refine (check_in x1 y1 _ h1).mono ?_
    rintro e w1 ⟨rfl, hb1⟩
    have c1' : w1.cell? ⟨b, 1, none⟩ = some (.iface 31 (.agg #[.int .i64 (x2), .int .i64 (y2)])) := (hb1.cell (p := ⟨b, 1, none⟩) hb).trans c1
    clear c0 c1
    go_wp2_with fail
    rw [rounds_succ]
    go_wp2_with fail
    refine (check_out x2 y2 _ h2).mono ?_
    rintro e w2 ⟨rfl, hb2⟩
    clear c1'
    go_wp2
    go_returns
    exact ⟨rfl, belowTo hb1 hb2⟩

/-! made, l1Done -/
end Go.Proofs.YtgaeibibeekclaaDoor

namespace Go.Proofs.YtgaeibibeekclaaDoor
open Go.RowKit

/-! the plain methods of vectors -/
set_option maxHeartbeats 1000000 in
theorem plus_any (x1 y1 x2 y2 : Int) (w : World) (h1 : vecB x1 y1 = true) (h2 : vecB x2 y2 = true) :
    Calls Tryd.prog 64 #[.agg #[.int .i64 (x1), .int .i64 (y1)], .agg #[.int .i64 (x2), .int .i64 (y2)]] w fun e w' => e = .returned (.agg #[.int .i64 (x1 + x2), .int .i64 (y1 + y2)]) ∧ Below w.heap.size w w' := by
  obtain ⟨⟨_, _⟩, _, _⟩ := szs h1
  obtain ⟨⟨_, _⟩, _, _⟩ := szs h2
  clear h1 h2
  go_enter Tryd.func64, Tryd.ntmps64
  go_wp2
  go_returns
  exact ⟨rfl, by go_grown⟩
set_option maxHeartbeats 1000000 in
theorem times_any (x y n : Int) (w : World) (h1 : vecB x y = true) (h2 : szB n = true) :
    Calls Tryd.prog 45 #[.agg #[.int .i64 (x), .int .i64 (y)], .int .i64 n] w fun e w' => e = .returned (.agg #[.int .i64 (x * n), .int .i64 (y * n)]) ∧ Below w.heap.size w w' := by
  obtain ⟨hx, hy⟩ := szs h1
  have hn := szB_true h2
  obtain ⟨_, _⟩ := mul_bd hx hn
  obtain ⟨_, _⟩ := mul_bd hy hn
  clear h1 h2 hx hy hn
  go_enter Tryd.func45, Tryd.ntmps45
  go_wp2
  go_returns
  exact ⟨rfl, by go_grown⟩
set_option maxHeartbeats 1000000 in
theorem det_any (x1 y1 x2 y2 : Int) (w : World) (h1 : vecB x1 y1 = true) (h2 : vecB x2 y2 = true) :
    Calls Tryd.prog 67 #[.agg #[.int .i64 (x1), .int .i64 (y1)], .agg #[.int .i64 (x2), .int .i64 (y2)]] w fun e w' => e = .returned (.int .i64 (detZ x1 y1 x2 y2)) ∧ Below w.heap.size w w' := by
  obtain ⟨a1, b1⟩ := szs h1
  obtain ⟨a2, b2⟩ := szs h2
  obtain ⟨_, _⟩ := mul_bd a1 b2
  obtain ⟨_, _⟩ := mul_bd b1 a2
  clear h1 h2 a1 b1 a2 b2
  go_enter Tryd.func67, Tryd.ntmps67
  go_wp2
  go_returns
  exact ⟨rfl, by go_grown⟩
/-! VecAdd, both sides -/
end Go.Proofs.YtgaeibibeekclaaDoor

namespace Go.Proofs.YtgaeibibeekclaaDoor
open Go.RowKit

/-! eqVec at one vector twice -/
set_option maxHeartbeats 400000 in
theorem eqVec_same (x y : Int) (w : World) :
    Calls Tryd.prog 62 #[.agg #[.int .i64 (x), .int .i64 (y)], .agg #[.int .i64 (x), .int .i64 (y)]] w fun e w' => e = .returned (.bool true) ∧ Below w.heap.size w w' := by
  go_enter Tryd.func62, Tryd.ntmps62
  go_wp2
  go_returns
  exact ⟨rfl, by go_grown⟩

end Go.Proofs.YtgaeibibeekclaaDoor

namespace Go.Proofs.YtgaeibibeekclaaDoor
open Go.RowKit

/-! VecTimes -/
/-! VecDet, VecProduct -/
set_option maxHeartbeats 1000000 in
theorem l1Det_any (x1 y1 x2 y2 : Int) (w : World) (h1 : vecB x1 y1 = true) (h2 : vecB x2 y2 = true) :
    Calls Tryd.prog 50 #[.agg #[.int .i64 (x1), .int .i64 (y1)], .agg #[.int .i64 (x2), .int .i64 (y2)]] w fun e w' => e = .returned (.int .i64 (detZ x1 y1 x2 y2)) ∧ Below w.heap.size w w' := by
  obtain ⟨a1, b1⟩ := szs h1
  obtain ⟨a2, b2⟩ := szs h2
  obtain ⟨_, _⟩ := mul_bd a1 b2
  obtain ⟨_, _⟩ := mul_bd b1 a2
  clear h1 h2 a1 b1 a2 b2
  go_enter Tryd.func50, Tryd.ntmps50
  go_wp2
  go_returns
  exact ⟨rfl, by go_grown⟩
/-! VecTurn -/
end Go.Proofs.YtgaeibibeekclaaDoor

namespace Go.Proofs.YtgaeibibeekclaaDoor
open Go.RowKit

theorem ret_int {a b : Int} (h : a = b) : Ending.returned (.int .i64 a) = .returned (.int .i64 b) := by rw [h]

end Go.Proofs.YtgaeibibeekclaaDoor

namespace Go.Proofs.YtgaeibibeekclaaDoor
open Go.RowKit

set_option maxHeartbeats 1000000 in
theorem matDet_any (a b c d : Int) (w : World) (ha : szB a = true) (hb : szB b = true) (hc : szB c = true) (hd : szB d = true) :
    Calls Tryd.prog 110 #[.agg #[.int .i64 (a), .int .i64 (b), .int .i64 (c), .int .i64 (d)]] w fun e w' => e = .returned (.int .i64 (detM a b c d)) ∧ Below w.heap.size w w' := by
  obtain ⟨⟨_, _⟩, _, _⟩ := det_bd ha hb hc hd
  clear ha hb hc hd
  go_enter Tryd.func110, Tryd.ntmps110
  go_wp2
  go_returns
  exact ⟨rfl, by go_grown⟩
set_option maxHeartbeats 2000000 in
theorem matCheck_in (a b c d : Int) (w : World) (h : matB a b c d = true) :
    Calls Tryd.prog 99 #[.agg #[.int .i64 (a), .int .i64 (b), .int .i64 (c), .int .i64 (d)]] w fun e w' => e = .returned .nilIface ∧ Below w.heap.size w w' := by
  obtain ⟨⟨ha, hb, hc, hd⟩, hk⟩ := mat_in h
  clear h
  rcases det_in hk with ⟨q1, q2⟩ | ⟨q1, q2, q3, q4⟩
  all_goals
    clear hk
    go_enter Tryd.func99, Tryd.ntmps99
    go_wp2_with (go_at_call 92; refine (inSize_any _ _).mono ?_; rintro e w' ⟨rfl, rfl⟩)
    go_call (matDet_any a b c d _ ha hb hc hd) as e w1 ⟨rfl, hb1⟩
    go_wp2
    go_returns
    exact ⟨rfl, belowTo (by go_grown) hb1⟩
set_option maxHeartbeats 2000000 in
theorem matCheck_out (a b c d : Int) (w : World) (h : matB a b c d = false) :
    Calls Tryd.prog 99 #[.agg #[.int .i64 (a), .int .i64 (b), .int .i64 (c), .int .i64 (d)]] w fun e w' => e = .returned (.iface 80 (.agg #[.string ⟨#[109, 97, 116, 114, 105, 120]⟩])) ∧ Below w.heap.size w w' := by
  rcases mat_out h with hs | ⟨⟨ha, hb, hc, hd⟩, hk⟩
  · clear h
    rcases sz4_out hs with ha | ⟨ha, hb⟩ | ⟨ha, hb, hc⟩ | ⟨ha, hb, hc, hd⟩
    all_goals
      clear hs
      go_enter Tryd.func99, Tryd.ntmps99
      go_wp2_with (go_at_call 92; refine (inSize_any _ _).mono ?_; rintro e w' ⟨rfl, rfl⟩)
      go_returns
      exact ⟨rfl, by go_grown⟩
  · clear h
    obtain ⟨q1, q2, q3, q4⟩ := det_out hk
    clear hk
    go_enter Tryd.func99, Tryd.ntmps99
    go_wp2_with (go_at_call 92; refine (inSize_any _ _).mono ?_; rintro e w' ⟨rfl, rfl⟩)
    go_call (matDet_any a b c d _ ha hb hc hd) as e w1 ⟨rfl, hb1⟩
    go_wp2
    go_returns
    exact ⟨rfl, belowTo (by go_grown) hb1⟩
set_option maxHeartbeats 4000000 in
theorem specMatIn_any (a b c d : Int) (w : World) :
    Calls Tryd.prog 82 #[.agg #[.int .i64 (a), .int .i64 (b), .int .i64 (c), .int .i64 (d)]] w fun e w' => e = .returned (.bool (matB a b c d)) ∧ Below w.heap.size w w' := by
  cases h : matB a b c d
  · rcases mat_out h with hs | ⟨⟨ha, hb, hc, hd⟩, hk⟩
    · clear h
      rcases sz4_out hs with ha | ⟨ha, hb⟩ | ⟨ha, hb, hc⟩ | ⟨ha, hb, hc, hd⟩
      all_goals
        clear hs
        go_enter Tryd.func82, Tryd.ntmps82
        go_wp2_with (go_at_call 81; refine (l1Size_any _ _).mono ?_; rintro e w' ⟨rfl, rfl⟩)
        go_returns
        exact ⟨rfl, by go_grown⟩
    · clear h
      obtain ⟨q1, q2, q3, q4⟩ := det_out hk
      obtain ⟨⟨_, _⟩, _, _⟩ := det_bd ha hb hc hd
      unfold detM at q1 q2 q3 q4
      clear hk
      go_enter Tryd.func82, Tryd.ntmps82
      go_wp2_with (go_at_call 81; refine (l1Size_any _ _).mono ?_; rintro e w' ⟨rfl, rfl⟩)
      go_returns
      exact ⟨rfl, by go_grown⟩
  · obtain ⟨⟨ha, hb, hc, hd⟩, hk⟩ := mat_in h
    clear h
    obtain ⟨⟨_, _⟩, _, _⟩ := det_bd ha hb hc hd
    rcases det_in hk with ⟨q1, q2⟩ | ⟨q1, q2, q3, q4⟩
    all_goals
      unfold detM at *
      clear hk
      go_enter Tryd.func82, Tryd.ntmps82
      go_wp2_with (go_at_call 81; refine (l1Size_any _ _).mono ?_; rintro e w' ⟨rfl, rfl⟩)
      go_returns
      exact ⟨rfl, by go_grown⟩
end Go.Proofs.YtgaeibibeekclaaDoor

namespace Go.Proofs.YtgaeibibeekclaaDoor
open Go.RowKit

/-! checkAll over a matrix and a vector -/
set_option maxHeartbeats 1000000 in
theorem checkAll_mv_in (a b c d x y : Int) (B : Nat) (w : World) (h1 : matB a b c d = true) (h2 : vecB x y = true)
    (c0 : w.cell? ⟨B, 0, none⟩ = some (.iface 77 (.agg #[.int .i64 (a), .int .i64 (b), .int .i64 (c), .int .i64 (d)]))) (c1 : w.cell? ⟨B, 1, none⟩ = some (.iface 31 (.agg #[.int .i64 (x), .int .i64 (y)]))) (hB : B < w.heap.size) :
    Calls Tryd.prog 34 #[.slice (some ⟨B, 0, none⟩) 2 2] w fun e w' => e = .returned .nilIface ∧ Below w.heap.size w w' := by
  go_enter Tryd.func34, Tryd.ntmps34
  go_wp2
  refine wp_loop_rounds 3 ?_
  rw [rounds_succ]
  go_wp2_with fail
  go_call (matCheck_in a b c d _ h1) as e w1 ⟨rfl, hb1⟩
  have c1' : w1.cell? ⟨B, 1, none⟩ = some (.iface 31 (.agg #[.int .i64 (x), .int .i64 (y)])) := (hb1.cell (p := ⟨B, 1, none⟩) hB).trans c1
  clear c0 c1
  go_wp2_with fail
  rw [rounds_succ]
  go_wp2_with fail
  go_call (check_in x y _ h2) as e w2 ⟨rfl, hb2⟩
  clear c1'
  go_wp2_with fail
  rw [rounds_succ]
  go_wp2
  go_returns
  exact ⟨rfl, belowTo hb1 hb2⟩
/-- this program's own error, of whichever kind -/
def IsNone (e : Ending) : Prop := ∃ s : ByteArray, e = .returned (.iface 80 (.agg #[.string s]))
set_option maxHeartbeats 1000000 in
theorem checkAll_mv_out (a b c d x y : Int) (B : Nat) (w : World) (h : mvOk a b c d x y = false)
    (c0 : w.cell? ⟨B, 0, none⟩ = some (.iface 77 (.agg #[.int .i64 (a), .int .i64 (b), .int .i64 (c), .int .i64 (d)]))) (c1 : w.cell? ⟨B, 1, none⟩ = some (.iface 31 (.agg #[.int .i64 (x), .int .i64 (y)]))) (hB : B < w.heap.size) :
    Calls Tryd.prog 34 #[.slice (some ⟨B, 0, none⟩) 2 2] w fun e w' => IsNone e ∧ Below w.heap.size w w' := by
  unfold mvOk at h
  cases h1 : matB a b c d
  · clear h
    go_enter Tryd.func34, Tryd.ntmps34
    go_wp2
    refine wp_loop_rounds 3 ?_
    rw [rounds_succ]
    go_wp2_with fail
    go_call (matCheck_out a b c d _ h1) as e w1 ⟨rfl, hb1⟩
    clear c0 c1
    go_wp2
    go_returns
    exact ⟨⟨_, rfl⟩, hb1⟩
  · have h2 : vecB x y = false := by simpa [h1] using h
    clear h
    go_enter Tryd.func34, Tryd.ntmps34
    go_wp2
    refine wp_loop_rounds 3 ?_
    rw [rounds_succ]
    go_wp2_with fail
    go_call (matCheck_in a b c d _ h1) as e w1 ⟨rfl, hb1⟩
    have c1' : w1.cell? ⟨B, 1, none⟩ = some (.iface 31 (.agg #[.int .i64 (x), .int .i64 (y)])) := (hb1.cell (p := ⟨B, 1, none⟩) hB).trans c1
    clear c0 c1
    go_wp2_with fail
    rw [rounds_succ]
    go_wp2_with fail
    go_call (check_out x y _ h2) as e w2 ⟨rfl, hb2⟩
    clear c1'
    go_wp2
    go_returns
    exact ⟨⟨_, rfl⟩, belowTo hb1 hb2⟩
/-! where a matrix moves a vector -/
theorem move_bd {a b x y : Int} (ha : szB a = true) (hb : szB b = true) (hx : szB x = true) (hy : szB y = true) : (-1000000 ≤ a * x ∧ a * x ≤ 1000000) ∧ (-1000000 ≤ b * y ∧ b * y ≤ 1000000) :=
  ⟨mul_bd (szB_true ha) (szB_true hx), mul_bd (szB_true hb) (szB_true hy)⟩
set_option maxHeartbeats 1000000 in
theorem move_any (a b c d x y : Int) (w : World) (ha : szB a = true) (hb : szB b = true) (hc : szB c = true) (hd : szB d = true) (hx : szB x = true) (hy : szB y = true) :
    Calls Tryd.prog 60 #[.agg #[.int .i64 (a), .int .i64 (b), .int .i64 (c), .int .i64 (d)], .agg #[.int .i64 (x), .int .i64 (y)]] w fun e w' => e = .returned (.agg #[.int .i64 (moveX a b x y), .int .i64 (moveX c d x y)]) ∧ Below w.heap.size w w' := by
  obtain ⟨⟨_, _⟩, _, _⟩ := move_bd ha hb hx hy
  obtain ⟨⟨_, _⟩, _, _⟩ := move_bd hc hd hx hy
  clear ha hb hc hd hx hy
  go_enter Tryd.func60, Tryd.ntmps60
  go_wp2
  go_returns
  exact ⟨rfl, by go_grown⟩
set_option maxHeartbeats 1000000 in
theorem l1Move_any (a b c d x y : Int) (w : World) (ha : szB a = true) (hb : szB b = true) (hc : szB c = true) (hd : szB d = true) (hx : szB x = true) (hy : szB y = true) :
    Calls Tryd.prog 83 #[.agg #[.int .i64 (a), .int .i64 (b), .int .i64 (c), .int .i64 (d)], .agg #[.int .i64 (x), .int .i64 (y)]] w fun e w' => e = .returned (.agg #[.int .i64 (moveX a b x y), .int .i64 (moveX c d x y)]) ∧ Below w.heap.size w w' := by
  obtain ⟨⟨_, _⟩, _, _⟩ := move_bd ha hb hx hy
  obtain ⟨⟨_, _⟩, _, _⟩ := move_bd hc hd hx hy
  clear ha hb hc hd hx hy
  go_enter Tryd.func83, Tryd.ntmps83
  go_wp2
  go_returns
  exact ⟨rfl, by go_grown⟩

end Go.Proofs.YtgaeibibeekclaaDoor

namespace Go.Proofs.YtgaeibibeekclaaDoor
open Go.RowKit

/-! VecAhead -/
def backB (x y : Int) : Bool := decide (y < 0) || (decide (y = 0) && decide (x < 0))
def frontB (x y : Int) : Bool := decide (0 < y) || (decide (y = 0) && decide (0 < x))
theorem front_back {x y : Int} (h : nzB x y = true) : frontB x y = !backB x y := by
  have h' : ¬ (x = 0 ∧ y = 0) := by rintro ⟨rfl, rfl⟩; simp [nzB] at h
  rw [Bool.eq_iff_iff]
  simp [frontB, backB]
  omega
def halfN (x y : Int) : Int := if frontB x y then 0 else 1
/-- the order of two directions that are not 0 -/
def aheadB (x1 y1 x2 y2 : Int) : Bool := if backB x1 y1 == backB x2 y2 then decide (0 < detZ x1 y1 x2 y2) else backB x2 y2
def aheadOk (x1 y1 x2 y2 : Int) : Bool := twoOk x1 y1 x2 y2 && (nzB x1 y1 && (nzB x2 y2 && aheadB x1 y1 x2 y2))

set_option maxHeartbeats 1000000 in
theorem inSecondHalf_any (x y : Int) (w : World) :
    Calls Tryd.prog 106 #[.agg #[.int .i64 (x), .int .i64 (y)]] w fun e w' => e = .returned (.bool (backB x y)) ∧ Below w.heap.size w w' := by
  go_enter Tryd.func106, Tryd.ntmps106
  go_wp2
  all_goals go_returns
  all_goals refine ⟨?_, by go_grown⟩
  all_goals (refine ret_bool ?_; rw [Bool.eq_iff_iff]; simp [backB]; try omega)
set_option maxHeartbeats 1000000 in
theorem l1Half_any (x y : Int) (w : World) :
    Calls Tryd.prog 74 #[.agg #[.int .i64 (x), .int .i64 (y)]] w fun e w' => e = .returned (.int .i64 (halfN x y)) ∧ Below w.heap.size w w' := by
  go_enter Tryd.func74, Tryd.ntmps74
  go_wp2
  all_goals go_returns
  all_goals refine ⟨?_, by go_grown⟩
  all_goals (refine ret_int ?_; unfold halfN; simp [frontB]; try omega)

set_option linter.unusedSimpArgs false in
set_option maxHeartbeats 2000000 in
theorem ahead_any (x1 y1 x2 y2 : Int) (w : World) (h1 : vecB x1 y1 = true) (h2 : vecB x2 y2 = true) :
    Calls Tryd.prog 91 #[.agg #[.int .i64 (x1), .int .i64 (y1)], .agg #[.int .i64 (x2), .int .i64 (y2)]] w fun e w' => e = .returned (.bool (aheadB x1 y1 x2 y2)) ∧ Below w.heap.size w w' := by
  unfold aheadB
  cases k1 : backB x1 y1 <;> cases k2 : backB x2 y2
  all_goals
    go_enter Tryd.func91, Tryd.ntmps91
    go_upto_region 1 with fail
    obtain ⟨W0, hW⟩ : ∃ W9, W9 = (w.alloc (.cells #[.int .i64 x1, .int .i64 y1] 31)).alloc (.cells #[.int .i64 x2, .int .i64 y2] 31) := ⟨_, rfl⟩; have c0 : W0.cell? ⟨w.heap.size, 0, none⟩ = some (.int .i64 (x1)) := (by rw [hW]; first | (simp; done) | (rw [World.cell?_alloc_lt _ _ ⟨_, _, none⟩ (by simp only [World.size_alloc]; omega)]; simp; done) | (rw [World.cell?_alloc_at _ _ _ _ (by simp only [World.size_alloc])]; simp)); have c1 : W0.cell? ⟨w.heap.size, 1, none⟩ = some (.int .i64 (y1)) := (by rw [hW]; first | (simp; done) | (rw [World.cell?_alloc_lt _ _ ⟨_, _, none⟩ (by simp only [World.size_alloc]; omega)]; simp; done) | (rw [World.cell?_alloc_at _ _ _ _ (by simp only [World.size_alloc])]; simp)); have c2 : W0.cell? ⟨w.heap.size + 1, 0, none⟩ = some (.int .i64 (x2)) := (by rw [hW]; first | (simp; done) | (rw [World.cell?_alloc_lt _ _ ⟨_, _, none⟩ (by simp only [World.size_alloc]; omega)]; simp; done) | (rw [World.cell?_alloc_at _ _ _ _ (by simp only [World.size_alloc])]; simp)); have c3 : W0.cell? ⟨w.heap.size + 1, 1, none⟩ = some (.int .i64 (y2)) := (by rw [hW]; first | (simp; done) | (rw [World.cell?_alloc_lt _ _ ⟨_, _, none⟩ (by simp only [World.size_alloc]; omega)]; simp; done) | (rw [World.cell?_alloc_at _ _ _ _ (by simp only [World.size_alloc])]; simp)); have z0 : W0.frozen? ⟨w.heap.size, 0, none⟩ = false := (by rw [hW]; first | (simp; done) | (rw [World.frozen?_alloc_old _ _ ⟨_, _, none⟩ (by simp only [World.size_alloc]; omega)]; simp; done) | (rw [World.frozen?_alloc_at _ _ _ _ (by simp only [World.size_alloc])])); have z1 : W0.frozen? ⟨w.heap.size, 1, none⟩ = false := (by rw [hW]; first | (simp; done) | (rw [World.frozen?_alloc_old _ _ ⟨_, _, none⟩ (by simp only [World.size_alloc]; omega)]; simp; done) | (rw [World.frozen?_alloc_at _ _ _ _ (by simp only [World.size_alloc])])); have z2 : W0.frozen? ⟨w.heap.size + 1, 0, none⟩ = false := (by rw [hW]; first | (simp; done) | (rw [World.frozen?_alloc_old _ _ ⟨_, _, none⟩ (by simp only [World.size_alloc]; omega)]; simp; done) | (rw [World.frozen?_alloc_at _ _ _ _ (by simp only [World.size_alloc])])); have z3 : W0.frozen? ⟨w.heap.size + 1, 1, none⟩ = false := (by rw [hW]; first | (simp; done) | (rw [World.frozen?_alloc_old _ _ ⟨_, _, none⟩ (by simp only [World.size_alloc]; omega)]; simp; done) | (rw [World.frozen?_alloc_at _ _ _ _ (by simp only [World.size_alloc])])); have hB0 : Below w.heap.size w W0 := (by rw [hW]; go_grown); have hs0 : w.heap.size < W0.heap.size := (by rw [hW]; simp only [World.size_alloc]; omega); have hs1 : w.heap.size + 1 < W0.heap.size := (by rw [hW]; simp only [World.size_alloc]; omega); rw [← hW]; clear hW
    go_region_held3 (fun w' => w'.cell? ⟨w.heap.size, 0, none⟩ = some (.int .i64 (x1)) ∧ w'.cell? ⟨w.heap.size, 1, none⟩ = some (.int .i64 (y1)) ∧ w'.cell? ⟨w.heap.size + 1, 0, none⟩ = some (.int .i64 (x2)) ∧ w'.cell? ⟨w.heap.size + 1, 1, none⟩ = some (.int .i64 (y2)) ∧ Below W0.heap.size W0 w') ((refine (fun hS => ⟨(hS.cell (p := ⟨w.heap.size, 0, none⟩) hs0).trans c0, (hS.cell (p := ⟨w.heap.size, 1, none⟩) hs0).trans c1, (hS.cell (p := ⟨w.heap.size + 1, 0, none⟩) hs1).trans c2, (hS.cell (p := ⟨w.heap.size + 1, 1, none⟩) hs1).trans c3, hS⟩) (?_ : Below W0.heap.size W0 _); first | (go_grown; done))) (first | (go_at_call 106; go_call (inSecondHalf_any _ _ _) as e w1 ⟨rfl, hb0⟩; have hT : Below W0.heap.size W0 w1 := belowTo (by go_split_ands; assumption) hb0; have hTs := hT.size; (first | have hb1 := belowTo (by assumption) hb0 | have hb1 := hb0); obtain ⟨hc1, hf1⟩ := bcell hb1; have hz1 := bsize hb1; have hbs := hb0.size; (try simp only [World.size_alloc, World.size_drew, Nat.add_one_le_iff] at hbs); (try have t1 : W0.heap.size < w1.heap.size := (by omega)); (try have t2 : ¬ W0.heap.size = w1.heap.size := (by omega)); (try have t3 : ¬ w1.heap.size = W0.heap.size := (by omega))))
    go_wp2_with fail
    first
      | (go_returns; exact ⟨rfl, belowTo hB0.drew hb1⟩)
      | (go_call (inSecondHalf_any _ _ _) as e w2 ⟨rfl, hb2⟩; go_wp2; go_returns; exact ⟨rfl, belowTo (belowTo hB0.drew hb1) hb2⟩)
      | (go_call (det_any x1 y1 x2 y2 _ h1 h2) as e w2 ⟨rfl, hb2⟩; go_wp2; go_returns; exact ⟨rfl, belowTo (belowTo hB0.drew hb1) hb2⟩)

theorem half_back {x y : Int} (h : nzB x y = true) (k : backB x y = true) : halfN x y = 1 := by
  unfold halfN
  rw [front_back h, k]; rfl
theorem half_front {x y : Int} (h : nzB x y = true) (k : backB x y = false) : halfN x y = 0 := by
  unfold halfN
  rw [front_back h, k]; rfl
theorem half_is {x y : Int} (h : nzB x y = true) : (backB x y = true ∧ halfN x y = 1) ∨ (backB x y = false ∧ halfN x y = 0) := by
  cases k : backB x y
  · exact .inr ⟨rfl, half_front h k⟩
  · exact .inl ⟨rfl, half_back h k⟩
theorem nz_cases {x y : Int} (h : nzB x y = true) : (x == 0) = false ∨ ((x == 0) = true ∧ (y == 0) = false) := by
  cases hx : (x == 0) <;> cases hy : (y == 0) <;> simp [nzB, hx, hy] at h ⊢
theorem z_cases {x y : Int} (h : nzB x y = false) : (x == 0) = true ∧ (y == 0) = true := by
  cases hx : (x == 0) <;> cases hy : (y == 0) <;> simp [nzB, hx, hy] at h ⊢

set_option linter.unusedSimpArgs false in
set_option maxHeartbeats 4000000 in
theorem l1Ahead_any (x1 y1 x2 y2 : Int) (w : World) (h1 : vecB x1 y1 = true) (h2 : vecB x2 y2 = true) (n1 : nzB x1 y1 = true) (n2 : nzB x2 y2 = true) :
    Calls Tryd.prog 51 #[.agg #[.int .i64 (x1), .int .i64 (y1)], .agg #[.int .i64 (x2), .int .i64 (y2)]] w fun e w' => e = .returned (.bool (aheadB x1 y1 x2 y2)) ∧ Below w.heap.size w w' := by
  unfold aheadB
  rcases half_is n1 with ⟨k1, e1⟩ | ⟨k1, e1⟩ <;> rcases half_is n2 with ⟨k2, e2⟩ | ⟨k2, e2⟩
  all_goals
    rw [k1, k2]
    go_enter Tryd.func51, Tryd.ntmps51
    go_upto_region 1 with fail
    obtain ⟨W0, hW⟩ : ∃ W9, W9 = (w.alloc (.cells #[.int .i64 x1, .int .i64 y1] 31)).alloc (.cells #[.int .i64 x2, .int .i64 y2] 31) := ⟨_, rfl⟩; have c0 : W0.cell? ⟨w.heap.size, 0, none⟩ = some (.int .i64 (x1)) := (by rw [hW]; first | (simp; done) | (rw [World.cell?_alloc_lt _ _ ⟨_, _, none⟩ (by simp only [World.size_alloc]; omega)]; simp; done) | (rw [World.cell?_alloc_at _ _ _ _ (by simp only [World.size_alloc])]; simp)); have c1 : W0.cell? ⟨w.heap.size, 1, none⟩ = some (.int .i64 (y1)) := (by rw [hW]; first | (simp; done) | (rw [World.cell?_alloc_lt _ _ ⟨_, _, none⟩ (by simp only [World.size_alloc]; omega)]; simp; done) | (rw [World.cell?_alloc_at _ _ _ _ (by simp only [World.size_alloc])]; simp)); have c2 : W0.cell? ⟨w.heap.size + 1, 0, none⟩ = some (.int .i64 (x2)) := (by rw [hW]; first | (simp; done) | (rw [World.cell?_alloc_lt _ _ ⟨_, _, none⟩ (by simp only [World.size_alloc]; omega)]; simp; done) | (rw [World.cell?_alloc_at _ _ _ _ (by simp only [World.size_alloc])]; simp)); have c3 : W0.cell? ⟨w.heap.size + 1, 1, none⟩ = some (.int .i64 (y2)) := (by rw [hW]; first | (simp; done) | (rw [World.cell?_alloc_lt _ _ ⟨_, _, none⟩ (by simp only [World.size_alloc]; omega)]; simp; done) | (rw [World.cell?_alloc_at _ _ _ _ (by simp only [World.size_alloc])]; simp)); have z0 : W0.frozen? ⟨w.heap.size, 0, none⟩ = false := (by rw [hW]; first | (simp; done) | (rw [World.frozen?_alloc_old _ _ ⟨_, _, none⟩ (by simp only [World.size_alloc]; omega)]; simp; done) | (rw [World.frozen?_alloc_at _ _ _ _ (by simp only [World.size_alloc])])); have z1 : W0.frozen? ⟨w.heap.size, 1, none⟩ = false := (by rw [hW]; first | (simp; done) | (rw [World.frozen?_alloc_old _ _ ⟨_, _, none⟩ (by simp only [World.size_alloc]; omega)]; simp; done) | (rw [World.frozen?_alloc_at _ _ _ _ (by simp only [World.size_alloc])])); have z2 : W0.frozen? ⟨w.heap.size + 1, 0, none⟩ = false := (by rw [hW]; first | (simp; done) | (rw [World.frozen?_alloc_old _ _ ⟨_, _, none⟩ (by simp only [World.size_alloc]; omega)]; simp; done) | (rw [World.frozen?_alloc_at _ _ _ _ (by simp only [World.size_alloc])])); have z3 : W0.frozen? ⟨w.heap.size + 1, 1, none⟩ = false := (by rw [hW]; first | (simp; done) | (rw [World.frozen?_alloc_old _ _ ⟨_, _, none⟩ (by simp only [World.size_alloc]; omega)]; simp; done) | (rw [World.frozen?_alloc_at _ _ _ _ (by simp only [World.size_alloc])])); have hB0 : Below w.heap.size w W0 := (by rw [hW]; go_grown); have hs0 : w.heap.size < W0.heap.size := (by rw [hW]; simp only [World.size_alloc]; omega); have hs1 : w.heap.size + 1 < W0.heap.size := (by rw [hW]; simp only [World.size_alloc]; omega); rw [← hW]; clear hW
    go_region_held3 (fun w' => w'.cell? ⟨w.heap.size, 0, none⟩ = some (.int .i64 (x1)) ∧ w'.cell? ⟨w.heap.size, 1, none⟩ = some (.int .i64 (y1)) ∧ w'.cell? ⟨w.heap.size + 1, 0, none⟩ = some (.int .i64 (x2)) ∧ w'.cell? ⟨w.heap.size + 1, 1, none⟩ = some (.int .i64 (y2)) ∧ Below W0.heap.size W0 w') ((refine (fun hS => ⟨(hS.cell (p := ⟨w.heap.size, 0, none⟩) hs0).trans c0, (hS.cell (p := ⟨w.heap.size, 1, none⟩) hs0).trans c1, (hS.cell (p := ⟨w.heap.size + 1, 0, none⟩) hs1).trans c2, (hS.cell (p := ⟨w.heap.size + 1, 1, none⟩) hs1).trans c3, hS⟩) (?_ : Below W0.heap.size W0 _); first | (go_grown; done))) (first | (go_at_call 74; go_call (l1Half_any _ _ _) as e w1 ⟨rfl, hb0⟩; have hT : Below W0.heap.size W0 w1 := belowTo (by go_split_ands; assumption) hb0; have hTs := hT.size; (first | have hb1 := belowTo (by assumption) hb0 | have hb1 := hb0); obtain ⟨hc1, hf1⟩ := bcell hb1; have hz1 := bsize hb1; have hbs := hb0.size; (try simp only [World.size_alloc, World.size_drew, Nat.add_one_le_iff] at hbs); (try have t1 : W0.heap.size < w1.heap.size := (by omega)); (try have t2 : ¬ W0.heap.size = w1.heap.size := (by omega)); (try have t3 : ¬ w1.heap.size = W0.heap.size := (by omega))))
    all_goals go_wp2_with fail
    all_goals first
      | (go_call (l1Det_any x1 y1 x2 y2 _ h1 h2) as e w2 ⟨rfl, hb2⟩; go_wp2; go_returns; exact ⟨rfl, belowTo (belowTo hB0 hT) hb2⟩)
      | (go_region_held3 (fun w' => w'.cell? ⟨w.heap.size, 0, none⟩ = some (.int .i64 (x1)) ∧ w'.cell? ⟨w.heap.size, 1, none⟩ = some (.int .i64 (y1)) ∧ w'.cell? ⟨w.heap.size + 1, 0, none⟩ = some (.int .i64 (x2)) ∧ w'.cell? ⟨w.heap.size + 1, 1, none⟩ = some (.int .i64 (y2)) ∧ Below W0.heap.size W0 w') ((refine (fun hS => ⟨(hS.cell (p := ⟨w.heap.size, 0, none⟩) hs0).trans c0, (hS.cell (p := ⟨w.heap.size, 1, none⟩) hs0).trans c1, (hS.cell (p := ⟨w.heap.size + 1, 0, none⟩) hs1).trans c2, (hS.cell (p := ⟨w.heap.size + 1, 1, none⟩) hs1).trans c3, hS⟩) (?_ : Below W0.heap.size W0 _); first | (go_grown; done))) (first | (go_at_call 74; go_call (l1Half_any _ _ _) as e w1 ⟨rfl, hb0⟩; have hT : Below W0.heap.size W0 w1 := belowTo (by go_split_ands; assumption) hb0; have hTs := hT.size; (first | have hb1 := belowTo (by assumption) hb0 | have hb1 := hb0); obtain ⟨hc1, hf1⟩ := bcell hb1; have hz1 := bsize hb1; have hbs := hb0.size; (try simp only [World.size_alloc, World.size_drew, Nat.add_one_le_iff] at hbs); (try have t1 : W0.heap.size < w1.heap.size := (by omega)); (try have t2 : ¬ W0.heap.size = w1.heap.size := (by omega)); (try have t3 : ¬ w1.heap.size = W0.heap.size := (by omega)))); all_goals (go_wp2; go_returns; exact ⟨rfl, belowTo hB0 hT⟩))

end Go.Proofs.YtgaeibibeekclaaDoor
