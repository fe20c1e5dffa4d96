import Derived.Test.YtomadlpdlmbmjaaDoorB2
namespace Go.Proofs.YtomadlpdlmbmjaaDoor
open Go.RowKit

/-! eqMat at one matrix twice -/
/-! checkAll over two matrices -/
/-! MatTurned -/
end Go.Proofs.YtomadlpdlmbmjaaDoor
