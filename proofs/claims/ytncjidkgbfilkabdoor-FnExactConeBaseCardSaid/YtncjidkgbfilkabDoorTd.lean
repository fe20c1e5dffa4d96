import Derived.Test.YtncjidkgbfilkabDoorTc
namespace Go.Proofs.YtncjidkgbfilkabDoor
open Go.RowKit

/-! the plain methods of vectors -/
set_option maxHeartbeats 1000000 in
theorem plus_any (x1 y1 x2 y2 : Int) (w : World) (h1 : vecB x1 y1 = true) (h2 : vecB x2 y2 = true) :
    Calls Tryd.prog 63 #[.agg #[.int .i64 (x1), .int .i64 (y1)], .agg #[.int .i64 (x2), .int .i64 (y2)]] w fun e w' => e = .returned (.agg #[.int .i64 (x1 + x2), .int .i64 (y1 + y2)]) ∧ Below w.heap.size w w' := by
  obtain ⟨⟨_, _⟩, _, _⟩ := szs h1
  obtain ⟨⟨_, _⟩, _, _⟩ := szs h2
  clear h1 h2
  go_enter Tryd.func63, Tryd.ntmps63
  go_wp2
  go_returns
  exact ⟨rfl, by go_grown⟩
set_option maxHeartbeats 1000000 in
theorem times_any (x y n : Int) (w : World) (h1 : vecB x y = true) (h2 : szB n = true) :
    Calls Tryd.prog 64 #[.agg #[.int .i64 (x), .int .i64 (y)], .int .i64 n] w fun e w' => e = .returned (.agg #[.int .i64 (x * n), .int .i64 (y * n)]) ∧ Below w.heap.size w w' := by
  obtain ⟨hx, hy⟩ := szs h1
  have hn := szB_true h2
  obtain ⟨_, _⟩ := mul_bd hx hn
  obtain ⟨_, _⟩ := mul_bd hy hn
  clear h1 h2 hx hy hn
  go_enter Tryd.func64, Tryd.ntmps64
  go_wp2
  go_returns
  exact ⟨rfl, by go_grown⟩
set_option maxHeartbeats 1000000 in
theorem det_any (x1 y1 x2 y2 : Int) (w : World) (h1 : vecB x1 y1 = true) (h2 : vecB x2 y2 = true) :
    Calls Tryd.prog 78 #[.agg #[.int .i64 (x1), .int .i64 (y1)], .agg #[.int .i64 (x2), .int .i64 (y2)]] w fun e w' => e = .returned (.int .i64 (detZ x1 y1 x2 y2)) ∧ Below w.heap.size w w' := by
  obtain ⟨a1, b1⟩ := szs h1
  obtain ⟨a2, b2⟩ := szs h2
  obtain ⟨_, _⟩ := mul_bd a1 b2
  obtain ⟨_, _⟩ := mul_bd b1 a2
  clear h1 h2 a1 b1 a2 b2
  go_enter Tryd.func78, Tryd.ntmps78
  go_wp2
  go_returns
  exact ⟨rfl, by go_grown⟩
set_option maxHeartbeats 1000000 in
theorem product_any (x1 y1 x2 y2 : Int) (w : World) (h1 : vecB x1 y1 = true) (h2 : vecB x2 y2 = true) :
    Calls Tryd.prog 81 #[.agg #[.int .i64 (x1), .int .i64 (y1)], .agg #[.int .i64 (x2), .int .i64 (y2)]] w fun e w' => e = .returned (.int .i64 (dotZ x1 y1 x2 y2)) ∧ Below w.heap.size w w' := by
  obtain ⟨a1, b1⟩ := szs h1
  obtain ⟨a2, b2⟩ := szs h2
  obtain ⟨_, _⟩ := mul_bd a1 a2
  obtain ⟨_, _⟩ := mul_bd b1 b2
  clear h1 h2 a1 b1 a2 b2
  go_enter Tryd.func81, Tryd.ntmps81
  go_wp2
  go_returns
  exact ⟨rfl, by go_grown⟩
/-! VecAdd, both sides -/
end Go.Proofs.YtncjidkgbfilkabDoor
