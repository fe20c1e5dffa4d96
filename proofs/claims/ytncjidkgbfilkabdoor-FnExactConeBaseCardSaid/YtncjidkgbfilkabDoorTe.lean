import Derived.Test.YtncjidkgbfilkabDoorTd
import Derived.Deep.RegionHeld3
import Derived.Deep.DeepCutAuto
namespace Go.Proofs.YtncjidkgbfilkabDoor
open Go.RowKit

/-! eqVec at one vector twice -/
set_option maxHeartbeats 400000 in
theorem eqVec_same (x y : Int) (w : World) :
    Calls Tryd.prog 40 #[.agg #[.int .i64 (x), .int .i64 (y)], .agg #[.int .i64 (x), .int .i64 (y)]] w fun e w' => e = .returned (.bool true) ∧ Below w.heap.size w w' := by
  go_enter Tryd.func40, Tryd.ntmps40
  go_wp2
  go_returns
  exact ⟨rfl, by go_grown⟩

end Go.Proofs.YtncjidkgbfilkabDoor
