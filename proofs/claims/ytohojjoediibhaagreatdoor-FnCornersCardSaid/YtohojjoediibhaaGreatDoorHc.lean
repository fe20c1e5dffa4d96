/- Fans, the model's side: FanCone, FanWhere. -/
import Derived.Test.YtohojjoediibhaaGreatDoorBa
import Derived.Test.YtohojjoediibhaaGreatDoorB9
namespace Go.Proofs.YtohojjoediibhaaGreatDoor
open Go.RowKit

theorem idx_is (l : List V2) (i : Int) : (decide (0 ≤ i) && decide (i ≤ (l.length : Int) - 1)) = idxB l i := by
  unfold idxB
  congr 1
  exact decide_eq_decide.2 (by omega)
end Go.Proofs.YtohojjoediibhaaGreatDoor
