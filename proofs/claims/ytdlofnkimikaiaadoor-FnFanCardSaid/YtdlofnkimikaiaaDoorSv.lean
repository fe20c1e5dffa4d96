/- Fans of lists: the mathematics that both sides share. -/
import Derived.Test.YtdlofnkimikaiaaDoorMs
namespace Go.Proofs.YtdlofnkimikaiaaDoor
open Go.RowKit

theorem sort_perm {l l' : List V2} (hp : AllP l) (h : l'.Perm l) : sortL l' = sortL l :=
  sort_is hp (strict_sort (fun v hv => hp v (h.mem_iff.1 hv))) (fun _ => mem_sort.trans h.mem_iff)
def primV (v : V2) : Bool := primB v.1 v.2
def ofB (l : List V2) : Bool := l.all primV && fanB (sortL l)
theorem all_prim {l : List V2} (h : l.all primV = true) : AllP l := fun v hv => List.all_eq_true.1 h v hv
theorem take_all {l : List V2} {k : Nat} (h : ∀ j, j < k → primV (cyc l j) = true) (hx : primV (cyc l k) = true) : ∀ j, j < k + 1 → primV (cyc l j) = true := fun j hj => by
  by_cases e : j = k
  · rw [e]; exact hx
  · exact h j (by omega)
theorem all_of {l : List V2} (h : ∀ j, j < l.length → primV (cyc l j) = true) : l.all primV = true := by
  rw [List.all_eq_true]
  intro v hv
  obtain ⟨i, hi, rfl⟩ := List.mem_iff_getElem.1 hv
  have := h i hi
  rwa [cyc_lt hi, List.getElem?_eq_getElem hi] at this
theorem of_not {l : List V2} {k : Nat} (hk : k < l.length) (h : primV (cyc l k) = false) : ofB l = false := by
  unfold ofB
  have : l.all primV = false := List.all_eq_false.2 ⟨cyc l k, cyc_mem (by omega) k, by simp [h]⟩
  rw [this]
  rfl
theorem of_fan {l : List V2} (h : ∀ j, j < l.length → primV (cyc l j) = true) : ofB l = fanB (sortL l) := by
  unfold ofB
  rw [all_of h]
  rfl
end Go.Proofs.YtdlofnkimikaiaaDoor
