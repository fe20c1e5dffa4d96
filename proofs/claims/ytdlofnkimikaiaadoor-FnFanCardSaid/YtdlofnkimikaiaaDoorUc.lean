/- The draws of a smooth fan, seldom another list, alone. -/
import Derived.Test.YtdlofnkimikaiaaDoorBd
namespace Go.Proofs.YtdlofnkimikaiaaDoor
open Go.RowKit

/-- a list of vectors in new memory -/
def GivenV (w : World) (e : Ending) (w' : World) : Prop :=
  ∃ (v : Value) (l : List V2), e = .returned v ∧ ReadsVecs w' v l ∧ 2 ≤ l.length ∧ l.length ≤ 20 ∧ Below w.heap.size w w'
end Go.Proofs.YtdlofnkimikaiaaDoor
