import Derived.Test.YtgaeibibeekclabGreatDoorS08
import Derived.Test.YtgaeibibeekclabGreatDoorS31
import Derived.StillTailTactics
namespace Go.Proofs.YtgaeibibeekclabGreatDoor
open Go.RowKit
def cvxP (n : Int) : Bool := decide (-2 ≤ n)
def cvxL (d : List Int) : Bool := d.all cvxP
def convB (l : List V2) : Bool := smoothB l && cvxL (numsZ l)
theorem cvx_good {d : List Int} (h : ∀ k, k < d.length → cvxP (gz d k) = true) : cvxL d = true := by
  unfold cvxL
  rw [List.all_eq_true]
  intro x hx
  obtain ⟨i, hi, rfl⟩ := List.mem_iff_getElem.1 hx
  have := h i hi
  unfold gz at this
  rwa [List.getElem?_eq_getElem hi] at this
end Go.Proofs.YtgaeibibeekclabGreatDoor
