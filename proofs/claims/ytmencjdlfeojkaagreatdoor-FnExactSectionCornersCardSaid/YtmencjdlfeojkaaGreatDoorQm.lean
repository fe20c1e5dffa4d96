/- Divisors: the model's side: sums, degrees, products. -/
import Derived.Test.YtmencjdlfeojkaaGreatDoorQs
import Derived.Test.YtmencjdlfeojkaaGreatDoorQc
import Derived.Test.YtmencjdlfeojkaaGreatDoorHn
import Derived.Test.YtmencjdlfeojkaaGreatDoorB7
namespace Go.Proofs.YtmencjdlfeojkaaGreatDoor
open Go.RowKit

theorem sum_snoc (a : List Int) (m : Int) (b : List Int) (k : Nat) : (List.range (k + 1)).map (fun i => gz a i + m * gz b i) = (List.range k).map (fun i => gz a i + m * gz b i) ++ [gz a k + m * gz b k] := tab_snoc _ _
end Go.Proofs.YtmencjdlfeojkaaGreatDoor
