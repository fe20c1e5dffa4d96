import Derived.Test.YtncjidkgbfilkabTc
namespace Go.Proofs.Ytncjidkgbfilkab
open Go.RowKit

/-! the plain methods of vectors -/
/-! VecAdd, both sides -/
end Go.Proofs.Ytncjidkgbfilkab
