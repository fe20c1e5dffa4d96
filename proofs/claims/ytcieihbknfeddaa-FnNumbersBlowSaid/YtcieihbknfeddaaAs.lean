/- errors.As at a concrete target of this program's own error type (a struct of one string), by its contract: Go's own text of errors.As and errors.as is walked. Ours; after the guide's worked example. -/
import Derived.Test.YtcieihbknfeddaaProg
import Derived.WalkKit
import Derived.LaidEql
import Derived.Stop.Asserts
import Derived.RowKitTokens
import Derived.Handy
namespace Go.Proofs.Ytcieihbknfeddaa
open Go.RowKit Go.Extern.Stop Go.Stop Go.Extern

namespace As
theorem run_of_bind {α β : Type} {P : Program} {x : Sem α} {f : α → Sem β} {y : Sem β} (e : y = x >>= f) {a : α} {w w' : World} (h : x.run P w = .ok a w') : y.run P w = (f a).run P w' := by
  rw [e, Sem.run_bind, h]; rfl
end As

end Go.Proofs.Ytcieihbknfeddaa
