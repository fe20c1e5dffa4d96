/- The exact law of FractionOther; both laws at whatever slice comes in. -/
import Derived.Test.YtnhanbaaclkjaaaFh
import Derived.Test.YtnhanbaaclkjaaaRi
namespace Go.Proofs.Ytnhanbaaclkjaaa
open Go.RowKit

end Go.Proofs.Ytnhanbaaclkjaaa
