import Derived.Test.YtncjidkgbfilkabTd
namespace Go.Proofs.Ytncjidkgbfilkab
open Go.RowKit

/-! VecTimes -/
/-! VecDet, VecProduct -/
/-! VecTurn -/
end Go.Proofs.Ytncjidkgbfilkab
