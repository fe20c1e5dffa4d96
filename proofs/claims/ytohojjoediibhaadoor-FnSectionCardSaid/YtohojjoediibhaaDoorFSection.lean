/- FnSection: the walk. -/
import Derived.Test.YtohojjoediibhaaDoorUf
import Derived.Test.YtohojjoediibhaaDoorNe
import Derived.Test.YtohojjoediibhaaDoorSm
import Derived.Test.YtohojjoediibhaaDoorBq
import Derived.Test.YtohojjoediibhaaDoorBp
import Derived.Test.YtohojjoediibhaaDoorB2
import Derived.Test.YtohojjoediibhaaDoorQh
namespace Go.Proofs.YtohojjoediibhaaDoor
open Go.RowKit

end Go.Proofs.YtohojjoediibhaaDoor
