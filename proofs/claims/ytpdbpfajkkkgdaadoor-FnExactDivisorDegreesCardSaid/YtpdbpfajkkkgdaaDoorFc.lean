/- Lists of numbers that are asked: the program's check of a fraction. -/
import Derived.Test.YtpdbpfajkkkgdaaDoorB3
import Derived.Test.YtpdbpfajkkkgdaaDoorMv
import Derived.Test.YtpdbpfajkkkgdaaDoorB2
namespace Go.Proofs.YtpdbpfajkkkgdaaDoor
open Go.RowKit

def CheckPost (w : World) (l : List Int) (e : Ending) (w' : World) : Prop := ((lstB l = true ∧ e = .returned .nilIface) ∨ (lstB l = false ∧ IsNone e)) ∧ Below w.heap.size w w'
end Go.Proofs.YtpdbpfajkkkgdaaDoor
