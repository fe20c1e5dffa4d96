/- Divisors: sums and multiples: the program's functions. -/
import Derived.Test.YtcieihbknfeddabGreatDoorQf
import Derived.Test.YtcieihbknfeddabGreatDoorBe
namespace Go.Proofs.YtcieihbknfeddabGreatDoor
open Go.RowKit

theorem told_v {v : Value} {d : List Int} {b : Bool} {w' : World} {base : Nat} (hI : Ints w' base v d) : Ints w' base (if b then v else .slice none 0 0) (gV b d) := by
  cases b
  · exact Ints.nil _ _
  · exact hI
end Go.Proofs.YtcieihbknfeddabGreatDoor
