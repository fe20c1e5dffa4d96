/- Lists of numbers that are asked: the program's check of a fraction. -/
import Derived.Test.YtnhanbaaclkjaaaB3
import Derived.Test.YtnhanbaaclkjaaaMv
import Derived.Test.YtnhanbaaclkjaaaB2
namespace Go.Proofs.Ytnhanbaaclkjaaa
open Go.RowKit

end Go.Proofs.Ytnhanbaaclkjaaa
