import Derived.Test.YtncjidkgbfilkabTa
import Derived.Test.YtncjidkgbfilkabMa
namespace Go.Proofs.Ytncjidkgbfilkab
open Go.RowKit

/-! checkAll over two vectors -/
/-! made, l1Done -/
end Go.Proofs.Ytncjidkgbfilkab
