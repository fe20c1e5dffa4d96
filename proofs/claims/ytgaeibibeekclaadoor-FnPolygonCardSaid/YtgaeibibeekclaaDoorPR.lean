/- Hulls and polygons: the mathematics of FnPolygon, FnHull, FnPolygonHas. -/
import Derived.Test.YtgaeibibeekclaaDoorK3
import Derived.Test.YtgaeibibeekclaaDoorK6
import Derived.Test.YtgaeibibeekclaaDoorK4
namespace Go.Proofs.YtgaeibibeekclaaDoor
open Go.RowKit

theorem pr_poly {l : List V2} (h : polyB l = true) : OfB l = true ∧ OfL l = tidyP l := by
  have h3 := poly_len h
  have e : OfB l = true := by
    unfold OfB
    rw [hull_poly h, tidyP_poly, h, Bool.and_true]
    exact decide_eq_true (by omega)
  exact ⟨e, by unfold OfL; rw [e, hull_poly h]; rfl⟩
theorem pr_corner {l : List V2} (h : polyB l = true) (i : Nat) : (polyB l && (vecB (cyc l i).1 (cyc l i).2 && hasPB l ((cyc l i).1, (cyc l i).2))) = true := by
  have s := poly_small h i
  rw [h, vec_of (by omega), show ((cyc l i).1, (cyc l i).2) = cyc l i from rfl, has_corner h i]
  rfl
theorem pr_of {l : List V2} (h : OfB l = true) : polyB (hullD l) = true ∧ OfL l = hullD l ∧ l.length ≤ 60 := by
  have h' := h
  unfold OfB at h'
  rw [Bool.and_eq_true] at h'
  exact ⟨h'.2, by unfold OfL; rw [h]; rfl, of_decide_eq_true h'.1⟩
theorem pr_all {l : List V2} (h : OfB l = true) {x : V2} (hx : x ∈ l) : (polyB (hullD l) && (vecB x.1 x.2 && hasPB (hullD l) (x.1, x.2))) = true := by
  obtain ⟨h1, h2, _⟩ := pr_of h
  have s := cnr_in (hull_small_all h1 x hx)
  rw [h1, vec_of (by omega), show (x.1, x.2) = x from rfl, hull_all (pd_two h1) hx]
  rfl
theorem pr_rev (l : List V2) : OfB l.reverse = OfB l ∧ OfL l.reverse = OfL l := by
  have e : OfB l.reverse = OfB l := by unfold OfB; rw [hull_rev, List.length_reverse]
  exact ⟨e, by unfold OfL; rw [e, hull_rev]⟩
theorem pr_sub {l : List V2} {k : Nat} (hk : k < (hullD l).length) : ∃ i, i < l.length ∧ cyc l i = cyc (hullD l) k :=
  memC (hull_sub (cyc_mem (by omega) k))
theorem pr_add {l : List V2} (h : polyB l = true) {a : V2} (ha : hasPB l a = true) : OfB (l ++ [a]) = true ∧ OfL (l ++ [a]) = tidyP l := by
  have h3 := poly_len h
  have e : OfB (l ++ [a]) = true := by
    unfold OfB
    rw [has_add h ha, tidyP_poly, h, Bool.and_true]
    exact decide_eq_true (by simp; omega)
  exact ⟨e, by unfold OfL; rw [e, has_add h ha]; rfl⟩
theorem hull_take {l : List V2} {k : Nat} (h : k < l.length) : l.reverse.take (k + 1) = l.reverse.take k ++ [cyc l (l.length - 1 - k)] := by
  have h2 : l.length - 1 - k < l.length := by omega
  rw [List.take_add_one, List.getElem?_reverse h, cyc_lt h2, List.getElem?_eq_getElem h2]
  rfl
end Go.Proofs.YtgaeibibeekclaaDoor
