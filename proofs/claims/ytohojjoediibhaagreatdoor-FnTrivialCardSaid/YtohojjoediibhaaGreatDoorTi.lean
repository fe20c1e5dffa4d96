import Derived.Test.YtohojjoediibhaaGreatDoorB2
import Derived.Deep.RegionHeld3
namespace Go.Proofs.YtohojjoediibhaaGreatDoor
open Go.RowKit

end Go.Proofs.YtohojjoediibhaaGreatDoor
