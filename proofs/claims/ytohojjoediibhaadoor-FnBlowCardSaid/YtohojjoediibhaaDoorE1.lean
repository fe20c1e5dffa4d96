/- NumbersBlow: the model. -/
import Derived.Test.YtohojjoediibhaaDoorEz
import Derived.Test.YtohojjoediibhaaDoorB2
import Derived.Test.YtohojjoediibhaaDoorBe
import Derived.Test.YtohojjoediibhaaDoorB9
import Derived.Test.YtohojjoediibhaaDoorB4
import Derived.Maps.AppendAt
namespace Go.Proofs.YtohojjoediibhaaDoor
open Go.RowKit

theorem givesIntsOk_of {w w' : World} {l l' : List Int} {b b' : Bool} {u : Value} (hb : b' = b) (hl : gV b' l' = l) (h : Ints w' w.heap.size u l) (hB : Below w.heap.size w w') : GivesIntsOk w (gV b' l') b' (.returned (.tuple #[u, .bool b])) w' := ⟨u, by rw [hb], by rw [hl]; exact h, hB⟩
end Go.Proofs.YtohojjoediibhaaDoor
