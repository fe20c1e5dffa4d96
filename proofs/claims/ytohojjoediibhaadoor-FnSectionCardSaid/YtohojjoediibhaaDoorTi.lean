import Derived.Test.YtohojjoediibhaaDoorB2
import Derived.Deep.RegionHeld3
namespace Go.Proofs.YtohojjoediibhaaDoor
open Go.RowKit

end Go.Proofs.YtohojjoediibhaaDoor
