/- Divisors: the program's functions that make no divisor. -/
import Derived.Test.YtmencjdlfeojkaaGreatDoorQd
import Derived.Test.YtmencjdlfeojkaaGreatDoorQe
import Derived.Test.YtmencjdlfeojkaaGreatDoorQq
import Derived.Test.YtmencjdlfeojkaaGreatDoorB7
import Derived.BigRegion
namespace Go.Proofs.YtmencjdlfeojkaaGreatDoor
open Go.RowKit

def DivsEnd (b : Bool) (l : List V2) (u1 u2 : Value) (w : World) (e : Ending) (w' : World) : Prop :=
  ((b = true ∧ ∃ g ns, e = .returned (.tuple #[.agg #[.pointer (some ⟨g, 0, none⟩), u1], .agg #[.pointer (some ⟨g, 0, none⟩), u2], .bool true]) ∧ FanAt w' w.heap.size g ns ∧ rays ns = l) ∨
    (b = false ∧ ∃ p a n c, e = .returned (.tuple #[.agg #[.pointer p, .slice a n c], .agg #[.pointer none, .slice none 0 0], .bool false]))) ∧ Below w.heap.size w w'
theorem FanAt.far2 {W : World} {base g k o o' : Nat} {ns : List Node} (h : FanAt W base g ns) (hk : k < base) (u u' : Value) : FanAt ((W.setCell ⟨k, o, none⟩ u).setCell ⟨k, o', none⟩ u') base g ns := (h.far hk u).far hk u'
end Go.Proofs.YtmencjdlfeojkaaGreatDoor
