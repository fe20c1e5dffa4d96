import Derived.Test.YtkcnpbgbgdgkpaaDoorB2
import Derived.Deep.RegionHeld3
namespace Go.Proofs.YtkcnpbgbgdgkpaaDoor
open Go.RowKit

set_option maxHeartbeats 4000000 in
theorem primitive_any (x y : Int) (w : World) (h1 : vecB x y = true) (hne : ¬ (x = 0 ∧ y = 0)) :
    Calls Tryd.prog 164 #[.agg #[.int .i64 (x), .int .i64 (y)]] w fun e w' => e = .returned (.tuple #[.agg #[.int .i64 (x.tdiv (gcdZ x y)), .int .i64 (y.tdiv (gcdZ x y))], .int .i64 (gcdZ x y)]) ∧ Below w.heap.size w w' := by
  obtain ⟨hx, hy⟩ := szs h1
  have hp := gcdZ_pos hne
  have hl := gcdZ_le (x := x) (y := y) (n := 1000) hx hy
  have ⟨_, _⟩ := tdiv_bd (m := gcdZ x y) hx
  have ⟨_, _⟩ := tdiv_bd (m := gcdZ x y) hy
  have gb : (gcdZ x y == 0) = false := by simp; omega
  clear h1 hne
  go_enter Tryd.func164, Tryd.ntmps164
  (go_wp2_with fail; go_call (commonDivisor_any x y _ hx hy) as e w1 ⟨rfl, hb1⟩); obtain ⟨hc1, hf1⟩ := bcell hb1; have hz1 := bsize hb1
  go_wp2
  go_region
  all_goals go_wp2
  all_goals (have hB := belowTo (a := w) (by go_grown) hb1; have hS := hB.size; (refine bodyPost_ret (by simp [results, Tryd.results164, go_sem, bcs hb1]; try rfl) rfl ?_); clear hb1)
  all_goals exact ⟨rfl, by go_grown⟩
end Go.Proofs.YtkcnpbgbgdgkpaaDoor
