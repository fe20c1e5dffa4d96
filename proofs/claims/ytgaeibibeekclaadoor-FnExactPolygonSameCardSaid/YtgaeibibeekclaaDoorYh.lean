/- Polygons that begin with their least corner: the mathematics. -/
import Derived.Test.YtgaeibibeekclaaDoorYg
import Derived.Test.YtgaeibibeekclaaDoorWn
import Derived.Test.YtgaeibibeekclaaDoorBh
namespace Go.Proofs.YtgaeibibeekclaaDoor
open Go.RowKit

theorem way_rot {l : List V2} {K : Nat} (hK : K ≤ l.length) (i : Nat) : wayZ (rot K l) i = wayZ l (K + i) := by
  unfold wayZ
  rw [cyc_rot hK, cyc_rot hK, Nat.add_assoc]
theorem way_per (l : List V2) (i : Nat) : wayZ l (i + l.length) = wayZ l i := by
  unfold wayZ
  rw [cyc_add, show i + l.length + 1 = i + 1 + l.length by omega, cyc_add]
/-- polygons may begin with any corner -/
theorem poly_rot {l : List V2} {K : Nat} (hK : K ≤ l.length) : polyB (rot K l) = polyB l := by
  by_cases h0 : l.length = 0
  · have : l = [] := List.eq_nil_of_length_eq_zero h0
    subst this
    simp [rot]
  · have hn : 0 < l.length := by omega
    have hr : 0 < (rot K l).length := by rw [rot_len]; exact hn
    have e1 : prng (rot K l) = prng l := by unfold prng; rw [rot_len]
    have e2 : allK (rot K l) = allK l := by
      unfold allK
      rw [rot_len]
      have : (fun i => cnrV (cyc (rot K l) i)) = fun i => (fun j => cnrV (cyc l j)) (K + i) := funext fun i => by rw [cyc_rot hK]
      rw [this]
      exact all_rot (f := fun j => cnrV (cyc l j)) hn (fun i => by show cnrV (cyc l (i + l.length)) = _; rw [cyc_add]) K
    have e3 : allB (rot K l) = allB l := by
      unfold allB
      rw [rot_len]
      have : bendB (rot K l) = fun i => bendB l (K + i) := funext fun i => by
        unfold bendB
        rw [way_rot hK, way_rot hK, Nat.add_assoc]
      rw [this]
      exact all_rot hn (fun i => by unfold bendB; rw [way_per, show i + l.length + 1 = i + 1 + l.length by omega, way_per]) K
    have e4 : oneBack (waysL (rot K l)) = oneBack (waysL l) := by
      unfold oneBack
      rw [waysL_len, waysL_len, rot_len]
      have : bkB (waysL (rot K l)) = fun i => bkB (waysL l) (K + i) := funext fun i => by
        unfold bkB
        rw [cyc_ways hr, cyc_ways hr, cyc_ways hn, cyc_ways hn, way_rot hK, way_rot hK, Nat.add_assoc]
      rw [this, cnt_rot (fun i => by unfold bkB; rw [cyc_ways hn, cyc_ways hn, cyc_ways hn, cyc_ways hn, way_per, show i + l.length + 1 = i + 1 + l.length by omega, way_per]) K]
    unfold polyB
    rw [e1, e2, e3, e4]
/-- where the least one of the first vectors stands -/
def leastAt (l : List V2) : Nat → Nat
  | 0 => 0
  | i + 1 => if lessB (cyc l (i + 1)) (cyc l (leastAt l i)) = true then i + 1 else leastAt l i
theorem leastAt_le (l : List V2) : ∀ i, leastAt l i ≤ i
  | 0 => Nat.le_refl _
  | i + 1 => by
    have := leastAt_le l i
    unfold leastAt
    split <;> omega
theorem leastAt_min (l : List V2) : ∀ i j, j ≤ i → cyc l (leastAt l i) = cyc l j ∨ lexV (subV (cyc l j) (cyc l (leastAt l i)))
  | 0, j, h => by
    have : j = 0 := by omega
    subst this
    exact .inl rfl
  | i + 1, j, h => by
    have ih := leastAt_min l i
    unfold leastAt
    split
    · rename_i hl
      have h1 := less_lex.1 hl
      by_cases c : j = i + 1
      · subst c
        exact .inl rfl
      · rcases ih j (by omega) with e | e
        · rw [← e]
          exact .inr h1
        · exact .inr (lex_add h1 e)
    · rename_i hl
      by_cases c : j = i + 1
      · subst c
        have : lessB (cyc l (i + 1)) (cyc l (leastAt l i)) = false := by simpa using hl
        rcases less_not this with e | e
        · exact .inl e.symm
        · exact .inr e
      · exact ih j (by omega)
def tidyP (l : List V2) : List V2 := rot (leastAt l (l.length - 1)) l
theorem tidyP_len (l : List V2) : (tidyP l).length = l.length := rot_len _ _
theorem tidyP_poly (l : List V2) : polyB (tidyP l) = polyB l := poly_rot (Nat.le_trans (leastAt_le _ _) (by omega))
theorem range_cyc {l : List V2} {K : Nat} (hK : K ≤ l.length) : (List.range l.length).map (fun i => cyc l (K + i)) = rot K l := by
  apply List.ext_getElem?
  intro j
  by_cases hj : j < l.length
  · rw [List.getElem?_map, List.getElem?_range hj, cyc_get (l := rot K l) (by rw [rot_len]; exact hj), cyc_rot hK]
    rfl
  · rw [List.getElem?_eq_none (by simp; omega), List.getElem?_eq_none (by rw [rot_len]; omega)]
/-- the hull of the corners of a polygon is the polygon, from the least corner on -/
theorem hull_poly {l : List V2} (h : polyB l = true) : hullD l = tidyP l := by
  have hc := poly_conv h
  have h3 := hc.three
  have hK : leastAt l (l.length - 1) < l.length := Nat.lt_of_le_of_lt (leastAt_le _ _) (by omega)
  unfold hullD tidyP
  rw [hull_conv (hc.rot (leastAt l (l.length - 1))) (sortD_asc l) (fun q => ?_) (fun q hq => ?_)]
  · exact range_cyc (by omega)
  · rw [sortD_mem]
    constructor
    · intro hq
      rw [← rot_mem (K := leastAt l (l.length - 1))] at hq
      obtain ⟨j, hj, rfl⟩ := List.mem_iff_getElem.1 hq
      have e : (rot (leastAt l (l.length - 1)) l)[j] = cyc (rot (leastAt l (l.length - 1)) l) j := by rw [cyc_lt hj, List.getElem?_eq_getElem hj]; rfl
      rw [e, cyc_rot (by omega)]
      rw [rot_len] at hj
      exact ⟨j, hj, rfl⟩
    · rintro ⟨j, _, rfl⟩
      exact cyc_mem (by omega) _
  · rw [sortD_mem] at hq
    rw [Nat.add_zero]
    obtain ⟨j, hj, rfl⟩ := List.mem_iff_getElem.1 hq
    have e : l[j] = cyc l j := by rw [cyc_lt hj, List.getElem?_eq_getElem hj]; rfl
    rw [e]
    exact leastAt_min l _ j (by omega)
end Go.Proofs.YtgaeibibeekclaaDoor
