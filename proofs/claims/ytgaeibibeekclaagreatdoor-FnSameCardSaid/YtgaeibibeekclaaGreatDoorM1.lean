import Derived.Test.YtgaeibibeekclaaGreatDoorK3
import Derived.Test.YtgaeibibeekclaaGreatDoorK8
import Derived.Test.YtgaeibibeekclaaGreatDoorK4
/- Polygons: sums, and doubles as sums: the mathematics of the promises of chapter 6. -/
namespace Go.Proofs.YtgaeibibeekclaaGreatDoor
open Go.RowKit

theorem pd_mem {p q : List V2} {x : V2} : x ∈ smL p q ↔ ∃ i j, i < p.length ∧ j < q.length ∧ adV (cyc p i) (cyc q j) = x := by
  unfold smL sumK adR
  rw [List.mem_flatMap]
  constructor
  · rintro ⟨i, hi, hx⟩
    obtain ⟨j, hj, rfl⟩ := List.mem_map.1 hx
    exact ⟨i, j, List.mem_range.1 hi, List.mem_range.1 hj, rfl⟩
  · rintro ⟨i, j, hi, hj, rfl⟩
    exact ⟨i, List.mem_range.2 hi, List.mem_map.2 ⟨j, List.mem_range.2 hj, rfl⟩⟩
theorem pd_adV (a b : V2) : adV a b = adV b a := by
  unfold adV
  rw [Int.add_comm a.1, Int.add_comm a.2]
theorem pd_comm (p q : List V2) : hullD (smL p q) = hullD (smL q p) := hullD_sameA (fun x => by
  rw [pd_mem, pd_mem]
  constructor
  · rintro ⟨i, j, hi, hj, h⟩
    exact ⟨j, i, hj, hi, by rw [pd_adV]; exact h⟩
  · rintro ⟨i, j, hi, hj, h⟩
    exact ⟨j, i, hj, hi, by rw [pd_adV]; exact h⟩)
theorem pd_sumB (p q : List V2) : SumB q p = SumB p q := by
  unfold SumB
  rw [pd_comm q p, Bool.and_comm (polyB q)]
theorem pd_sumL (p q : List V2) : SumL q p = SumL p q := by
  unfold SumL
  rw [pd_sumB, pd_comm q p]
/-- the sum of a polygon and itself is its double -/
theorem pd_self {p : List V2} (h : polyB p = true) (h2 : polyB (p.map (timesF 2)) = true) : hullD (smL p p) = tidyP (p.map (timesF 2)) := by
  have h0 : 0 < p.length := by have := poly_len h; omega
  have hl : (p.map (timesF 2)).length = p.length := by simp
  refine hull_over (poly_conv h2) (fun j hj => ?_) (fun q hq k => ?_)
  · rw [hl] at hj
    refine pd_mem.2 ⟨j, j, hj, hj, ?_⟩
    rw [map_cyc h0]
    unfold adV timesF
    refine Prod.ext ?_ ?_ <;> dsimp only <;> omega
  · obtain ⟨i, j, -, -, rfl⟩ := pd_mem.1 hq
    have a := (poly_conv h).side0 k i
    have b := (poly_conv h).side0 k j
    have e : sideZ (cyc (p.map (timesF 2))) k (adV (cyc p i) (cyc p j)) = 2 * (sideZ (cyc p) k (cyc p i) + sideZ (cyc p) k (cyc p j)) := by
      unfold sideZ wyV
      rw [map_cyc h0, map_cyc h0]
      unfold timesF adV subV dtV
      dsimp only
      grind
    omega
theorem pd_two {l : List V2} (h : polyB (hullD l) = true) : 2 ≤ (sortD l).length := by
  refine Nat.not_lt.1 (fun q => ?_)
  have h3 := (poly_len h).1
  have := hull_two (l := l) (by omega)
  omega
theorem pd_has {l : List V2} (h : polyB (hullD l) = true) {x : V2} (hx : x ∈ l) : hasPB (hullD l) x = true := hull_all (pd_two h) hx
theorem pd_sum_has {p q : List V2} (h : SumB p q = true) : hasPB (hullD (smL p q)) (adV (cyc p 0) (cyc q 0)) = true ∧ vecB ((cyc p 0).1 + (cyc q 0).1) ((cyc p 0).2 + (cyc q 0).2) = true := by
  unfold SumB at h
  rw [Bool.and_eq_true, Bool.and_eq_true] at h
  obtain ⟨⟨hp, hq⟩, hs⟩ := h
  have p3 := poly_len hp
  have q3 := poly_len hq
  refine ⟨pd_has hs (pd_mem.2 ⟨0, 0, by omega, by omega, rfl⟩), ?_⟩
  have a := poly_small hp 0
  have b := poly_small hq 0
  exact vec_of (by omega)
end Go.Proofs.YtgaeibibeekclaaGreatDoor

/- Hulls and polygons: the mathematics of FnPolygon, FnHull, FnPolygonHas. -/
namespace Go.Proofs.YtgaeibibeekclaaGreatDoor
open Go.RowKit

theorem pr_poly {l : List V2} (h : polyB l = true) : OfB l = true ∧ OfL l = tidyP l := by
  have h3 := poly_len h
  have e : OfB l = true := by
    unfold OfB
    rw [hull_poly h, tidyP_poly, h, Bool.and_true]
    exact decide_eq_true (by omega)
  exact ⟨e, by unfold OfL; rw [e, hull_poly h]; rfl⟩
theorem pr_corner {l : List V2} (h : polyB l = true) (i : Nat) : (polyB l && (vecB (cyc l i).1 (cyc l i).2 && hasPB l ((cyc l i).1, (cyc l i).2))) = true := by
  have s := poly_small h i
  rw [h, vec_of (by omega), show ((cyc l i).1, (cyc l i).2) = cyc l i from rfl, has_corner h i]
  rfl
theorem pr_of {l : List V2} (h : OfB l = true) : polyB (hullD l) = true ∧ OfL l = hullD l ∧ l.length ≤ 60 := by
  have h' := h
  unfold OfB at h'
  rw [Bool.and_eq_true] at h'
  exact ⟨h'.2, by unfold OfL; rw [h]; rfl, of_decide_eq_true h'.1⟩
theorem pr_all {l : List V2} (h : OfB l = true) {x : V2} (hx : x ∈ l) : (polyB (hullD l) && (vecB x.1 x.2 && hasPB (hullD l) (x.1, x.2))) = true := by
  obtain ⟨h1, h2, _⟩ := pr_of h
  have s := cnr_in (hull_small_all h1 x hx)
  rw [h1, vec_of (by omega), show (x.1, x.2) = x from rfl, hull_all (pd_two h1) hx]
  rfl
theorem pr_rev (l : List V2) : OfB l.reverse = OfB l ∧ OfL l.reverse = OfL l := by
  have e : OfB l.reverse = OfB l := by unfold OfB; rw [hull_rev, List.length_reverse]
  exact ⟨e, by unfold OfL; rw [e, hull_rev]⟩
theorem pr_sub {l : List V2} {k : Nat} (hk : k < (hullD l).length) : ∃ i, i < l.length ∧ cyc l i = cyc (hullD l) k :=
  memC (hull_sub (cyc_mem (by omega) k))
theorem pr_add {l : List V2} (h : polyB l = true) {a : V2} (ha : hasPB l a = true) : OfB (l ++ [a]) = true ∧ OfL (l ++ [a]) = tidyP l := by
  have h3 := poly_len h
  have e : OfB (l ++ [a]) = true := by
    unfold OfB
    rw [has_add h ha, tidyP_poly, h, Bool.and_true]
    exact decide_eq_true (by simp; omega)
  exact ⟨e, by unfold OfL; rw [e, has_add h ha]; rfl⟩
theorem hull_take {l : List V2} {k : Nat} (h : k < l.length) : l.reverse.take (k + 1) = l.reverse.take k ++ [cyc l (l.length - 1 - k)] := by
  have h2 : l.length - 1 - k < l.length := by omega
  rw [List.take_add_one, List.getElem?_reverse h, cyc_lt h2, List.getElem?_eq_getElem h2]
  rfl
end Go.Proofs.YtgaeibibeekclaaGreatDoor
