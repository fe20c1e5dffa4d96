/- How often directions lead round. -/
import Derived.Test.YtcieihbknfeddaaL4
import Derived.Test.YtcieihbknfeddaaB2
namespace Go.Proofs.Ytcieihbknfeddaa
open Go.RowKit

theorem cnt_next (p : Nat → Bool) (k : Nat) : cnt p (List.range (k + 1)) = cnt p (List.range k) + (if p k then 1 else 0) := by
  rw [List.range_succ, cnt_snoc]
end Go.Proofs.Ytcieihbknfeddaa
