/- Divisors: the model's side: products; the divisor of a vector; the canonical one. -/
import Derived.Test.YtmencjdlfeojkaaGreatDoorQn
import Derived.Test.YtmencjdlfeojkaaGreatDoorB2
namespace Go.Proofs.YtmencjdlfeojkaaGreatDoor
open Go.RowKit

theorem gz_degs {l : List V2} {d : List Int} {k : Nat} (h : k < l.length) : gz (degsZ l d) k = degZ l d k := gz_tab _ h
/-! products with vectors that may be great -/
theorem triv_snoc (l : List V2) (m : V2) (k : Nat) : (List.range (k + 1)).map (fun i => dotZ m.1 m.2 (cyc l i).1 (cyc l i).2) = (List.range k).map (fun i => dotZ m.1 m.2 (cyc l i).1 (cyc l i).2) ++ [dotZ m.1 m.2 (cyc l k).1 (cyc l k).2] := tab_snoc _ _
theorem can_snoc (k : Nat) : canL (k + 1) = canL k ++ [-1] := by
  unfold canL
  rw [List.replicate_succ']
end Go.Proofs.YtmencjdlfeojkaaGreatDoor
