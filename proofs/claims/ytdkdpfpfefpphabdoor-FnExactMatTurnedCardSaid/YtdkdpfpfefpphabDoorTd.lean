import Derived.Test.YtdkdpfpfefpphabDoorTc
namespace Go.Proofs.YtdkdpfpfefpphabDoor
open Go.RowKit

/-! the plain methods of vectors -/
/-! VecAdd, both sides -/
end Go.Proofs.YtdkdpfpfefpphabDoor
