/- The exact law of FractionOther; both laws at whatever slice comes in. -/
import Derived.Test.YtnhanbaaclkjaaaDoorFh
import Derived.Test.YtnhanbaaclkjaaaDoorRi
namespace Go.Proofs.YtnhanbaaclkjaaaDoor
open Go.RowKit

end Go.Proofs.YtnhanbaaclkjaaaDoor
