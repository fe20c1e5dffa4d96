/- How often directions lead round. -/
import Derived.Test.YtnhanbaaclkjaaaGb
import Derived.Test.YtnhanbaaclkjaaaRg
import Derived.Test.YtnhanbaaclkjaaaB2
namespace Go.Proofs.Ytnhanbaaclkjaaa
open Go.RowKit

theorem cnt_next (p : Nat → Bool) (k : Nat) : cnt p (List.range (k + 1)) = cnt p (List.range k) + (if p k then 1 else 0) := by
  rw [List.range_succ, cnt_snoc]
end Go.Proofs.Ytnhanbaaclkjaaa
