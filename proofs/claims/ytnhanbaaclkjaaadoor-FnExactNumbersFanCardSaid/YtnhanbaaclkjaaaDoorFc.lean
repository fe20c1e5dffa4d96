/- Lists of numbers that are asked: the program's check of a fraction. -/
import Derived.Test.YtnhanbaaclkjaaaDoorB3
import Derived.Test.YtnhanbaaclkjaaaDoorMv
import Derived.Test.YtnhanbaaclkjaaaDoorB2
namespace Go.Proofs.YtnhanbaaclkjaaaDoor
open Go.RowKit

def CheckPost (w : World) (l : List Int) (e : Ending) (w' : World) : Prop := ((lstB l = true ∧ e = .returned .nilIface) ∨ (lstB l = false ∧ IsNone e)) ∧ Below w.heap.size w w'
end Go.Proofs.YtnhanbaaclkjaaaDoor
