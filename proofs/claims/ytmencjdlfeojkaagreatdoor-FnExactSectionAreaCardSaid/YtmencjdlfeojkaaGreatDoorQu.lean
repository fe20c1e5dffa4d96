/- Divisors made plain, equivalent ones: the model's side. -/
import Derived.Test.YtmencjdlfeojkaaGreatDoorQo
import Derived.Test.YtmencjdlfeojkaaGreatDoorQq
namespace Go.Proofs.YtmencjdlfeojkaaGreatDoor
open Go.RowKit

set_option maxHeartbeats 4000000 in
theorem l4Vertex_any (a b c d x y : Int) (w : World) (h1 : vecB a b = true) (h2 : vecB c d = true) (hx : -200 ≤ x ∧ x ≤ 200) (hy : -200 ≤ y ∧ y ≤ 200) :
    Calls Tryz.prog 18 #[.agg #[.int .i64 (a), .int .i64 (b), .int .i64 (c), .int .i64 (d)], .int .i64 x, .int .i64 y] w fun e w' => e = .returned (.agg #[.int .i64 (x * d - y * b), .int .i64 (y * a - x * c)]) ∧ Below w.heap.size w w' := by
  obtain ⟨a1, b1⟩ := szs h1
  obtain ⟨c1, d1⟩ := szs h2
  have m1 := mul_le hx d1
  have m2 := mul_le hy b1
  have m3 := mul_le hy a1
  have m4 := mul_le hx c1
  have q1 : IntKind.i64.wrap (x * d) = x * d := by rw [IntKind.wrap_i64]; omega
  have q2 : IntKind.i64.wrap (y * b) = y * b := by rw [IntKind.wrap_i64]; omega
  have q3 : IntKind.i64.wrap (y * a) = y * a := by rw [IntKind.wrap_i64]; omega
  have q4 : IntKind.i64.wrap (x * c) = x * c := by rw [IntKind.wrap_i64]; omega
  have q5 : IntKind.i64.wrap (x * d - y * b) = x * d - y * b := by rw [IntKind.wrap_i64]; omega
  have q6 : IntKind.i64.wrap (y * a - x * c) = y * a - x * c := by rw [IntKind.wrap_i64]; omega
  clear h1 h2
  go_enter Tryz.func18, Tryz.ntmps18
  go_wp2
  refine bodyPost_ret (by simp [results, Tryz.results18, go_sem, *]; try rfl) rfl ?_
  exact ⟨rfl, by go_grown⟩
end Go.Proofs.YtmencjdlfeojkaaGreatDoor
