/- Divisors that are nef, ample: the program. -/
import Derived.Test.YtcieihbknfeddaaBe
namespace Go.Proofs.Ytcieihbknfeddaa
open Go.RowKit

theorem all_bad {p : Int → Bool} {d : List Int} {k : Nat} (hk : k < d.length) (h : p (gz d k) = false) : d.all p = false := by
  rw [List.all_eq_false]
  exact ⟨_, gz_mem hk, by rw [h]; decide⟩
theorem all_good {p : Int → Bool} {d : List Int} (h : ∀ k, k < d.length → p (gz d k) = true) : d.all p = true := by
  rw [List.all_eq_true]
  intro x hx
  obtain ⟨i, hi, rfl⟩ := List.mem_iff_getElem.1 hx
  have := h i hi
  unfold gz at this
  rwa [List.getElem?_eq_getElem hi] at this
def nefP (n : Int) : Bool := decide (0 ≤ n)
def ampP (n : Int) : Bool := decide (0 < n)
theorem nefL_all (d : List Int) : nefL d = d.all nefP := rfl
theorem ampL_all (d : List Int) : ampL d = d.all ampP := rfl
end Go.Proofs.Ytcieihbknfeddaa
