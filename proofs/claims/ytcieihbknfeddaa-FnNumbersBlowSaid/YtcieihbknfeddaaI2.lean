import Derived.Test.YtcieihbknfeddaaBd
/- The draws of a smooth fan, seldom another list, alone. -/
namespace Go.Proofs.Ytcieihbknfeddaa
open Go.RowKit

/-- a list of vectors in new memory -/
def GivenV (w : World) (e : Ending) (w' : World) : Prop :=
  ∃ (v : Value) (l : List V2), e = .returned v ∧ ReadsVecs w' v l ∧ 2 ≤ l.length ∧ l.length ≤ 20 ∧ Below w.heap.size w w'
end Go.Proofs.Ytcieihbknfeddaa

/- The draws of a smooth fan and an index, and of a kind. -/
namespace Go.Proofs.Ytcieihbknfeddaa
open Go.RowKit

def GivenI (w : World) (e : Ending) (w' : World) : Prop :=
  ∃ (v : Value) (l : List V2) (i : Int), e = .returned (.tuple #[v, .int .i64 i]) ∧ ReadsVecs w' v l ∧ 2 ≤ l.length ∧ l.length ≤ 20 ∧ Below w.heap.size w w'
end Go.Proofs.Ytcieihbknfeddaa
