import Derived.Test.YtohojjoediibhaaDoorB2
namespace Go.Proofs.YtohojjoediibhaaDoor
open Go.RowKit

/-! eqMat at one matrix twice -/
/-! checkAll over two matrices -/
/-! MatTurned -/
end Go.Proofs.YtohojjoediibhaaDoor
