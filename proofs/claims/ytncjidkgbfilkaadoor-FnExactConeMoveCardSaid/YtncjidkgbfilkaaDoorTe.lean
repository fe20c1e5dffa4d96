import Derived.Test.YtncjidkgbfilkaaDoorTd
import Derived.Deep.RegionHeld3
import Derived.Deep.DeepCutAuto
namespace Go.Proofs.YtncjidkgbfilkaaDoor
open Go.RowKit

/-! eqVec at one vector twice -/
set_option maxHeartbeats 400000 in
theorem eqVec_same (x y : Int) (w : World) :
    Calls Tryd.prog 48 #[.agg #[.int .i64 (x), .int .i64 (y)], .agg #[.int .i64 (x), .int .i64 (y)]] w fun e w' => e = .returned (.bool true) ∧ Below w.heap.size w w' := by
  go_enter Tryd.func48, Tryd.ntmps48
  go_wp2
  go_returns
  exact ⟨rfl, by go_grown⟩

end Go.Proofs.YtncjidkgbfilkaaDoor
