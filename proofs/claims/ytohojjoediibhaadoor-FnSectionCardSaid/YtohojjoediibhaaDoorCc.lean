/- Chapter 2: duals, moved cones: both sides. -/
import Derived.Test.YtohojjoediibhaaDoorB4
namespace Go.Proofs.YtohojjoediibhaaDoor
open Go.RowKit

theorem sz_neg {x y : Int} (h : vecB x y = true) : vecB (-y) x = true := by
  obtain ⟨hx, hy⟩ := szs h
  have h1 : szB (-y) = true := szB_mk (by omega) (by omega)
  have h2 : szB x = true := szB_mk hx.1 hx.2
  simp [vecB, h1, h2]
set_option maxHeartbeats 1000000 in
theorem timesBack_any (x y : Int) (w : World) (h : vecB x y = true) :
    Calls Tryd.prog 112 #[.agg #[.int .i64 (-y), .int .i64 (x)], .int .i64 (-1)] w fun e w' => e = .returned (.agg #[.int .i64 (y), .int .i64 (-x)]) ∧ Below w.heap.size w w' := by
  refine (times_any (-y) x (-1) w (sz_neg h) (by decide)).mono ?_
  rintro e w' ⟨rfl, hb⟩
  refine ⟨?_, hb⟩
  rw [show (-y) * (-1) = y by omega, show x * (-1) = -x by omega]
end Go.Proofs.YtohojjoediibhaaDoor
