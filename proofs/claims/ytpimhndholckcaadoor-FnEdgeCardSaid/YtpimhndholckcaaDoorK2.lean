import Derived.Test.YtpimhndholckcaaDoorYj
import Derived.Test.YtpimhndholckcaaDoorYh
/- polygon.changed: by a number, by a vector, by a matrix. -/
namespace Go.Proofs.YtpimhndholckcaaDoor
open Go.RowKit

theorem range_map (F : V2 → V2) (l : List V2) : (List.range l.length).map (fun i => F (cyc l i)) = l.map F := by
  apply List.ext_getElem?
  intro j
  by_cases hj : j < l.length
  · rw [List.getElem?_map, List.getElem?_range hj, List.getElem?_map, cyc_get hj]
    rfl
  · rw [List.getElem?_eq_none (by simp; omega), List.getElem?_eq_none (by simp; omega)]
end Go.Proofs.YtpimhndholckcaaDoor

/- Polygons that are multiplied, shifted: the mathematics. -/
namespace Go.Proofs.YtpimhndholckcaaDoor
open Go.RowKit

/-- the hull of corners that bend all round is they, from the least one on -/
theorem hull_round {l : List V2} (hc : ConvS l.length (cyc l)) : hullD l = tidyP l := by
  have h3 := hc.three
  have hK : leastAt l (l.length - 1) < l.length := Nat.lt_of_le_of_lt (leastAt_le _ _) (by omega)
  unfold hullD tidyP
  rw [hull_conv (hc.rot (leastAt l (l.length - 1))) (sortD_asc l) (fun q => ?_) (fun q hq => ?_)]
  · exact range_cyc (by omega)
  · rw [sortD_mem]
    constructor
    · intro hq
      rw [← rot_mem (K := leastAt l (l.length - 1))] at hq
      obtain ⟨j, hj, rfl⟩ := List.mem_iff_getElem.1 hq
      have e : (rot (leastAt l (l.length - 1)) l)[j] = cyc (rot (leastAt l (l.length - 1)) l) j := by rw [cyc_lt hj, List.getElem?_eq_getElem hj]; rfl
      rw [e, cyc_rot (by omega)]
      rw [rot_len] at hj
      exact ⟨j, hj, rfl⟩
    · rintro ⟨j, _, rfl⟩
      exact cyc_mem (by omega) _
  · rw [sortD_mem] at hq
    rw [Nat.add_zero]
    obtain ⟨j, hj, rfl⟩ := List.mem_iff_getElem.1 hq
    have e : l[j] = cyc l j := by rw [cyc_lt hj, List.getElem?_eq_getElem hj]; rfl
    rw [e]
    exact leastAt_min l _ j (by omega)
theorem conv_map {l : List V2} (h : ConvS l.length (cyc l)) (F : V2 → V2) (c : Int) (hc : 0 < c) (hF : ∀ a b d, dtV (subV (F b) (F a)) (subV (F d) (F a)) = c * dtV (subV b a) (subV d a)) : ConvS (l.map F).length (cyc (l.map F)) := by
  have h3 := h.three
  have e : cyc (l.map F) = fun i => F (cyc l i) := funext fun i => cyc_map F (by omega) i
  rw [List.length_map, e]
  refine ⟨h3, fun i => ?_, fun i t h2 hn => ?_⟩
  · show F (cyc l (i + l.length)) = _
    rw [h.per]
  · have := h.inner i t h2 hn
    unfold farZ at this ⊢
    dsimp only
    rw [hF]
    exact Int.mul_pos hc this
theorem hull_map {l : List V2} (h : ConvS l.length (cyc l)) (F : V2 → V2) (c : Int) (hc : 0 < c) (hF : ∀ a b d, dtV (subV (F b) (F a)) (subV (F d) (F a)) = c * dtV (subV b a) (subV d a)) :
    hullD (l.map F) = tidyP (l.map F) ∧ polyB (hullD (l.map F)) = polyB (l.map F) := by
  have e := hull_round (conv_map h F c hc hF)
  exact ⟨e, by rw [e, tidyP_poly]⟩
def timesF (n : Int) (a : V2) : V2 := (n * a.1, n * a.2)
def shiftF (s : V2) (a : V2) : V2 := (a.1 + s.1, a.2 + s.2)
theorem times_turn (n : Int) (a b d : V2) : dtV (subV (timesF n b) (timesF n a)) (subV (timesF n d) (timesF n a)) = n * n * dtV (subV b a) (subV d a) := by
  unfold dtV subV timesF
  grind
theorem shift_turn (s a b d : V2) : dtV (subV (shiftF s b) (shiftF s a)) (subV (shiftF s d) (shiftF s a)) = 1 * dtV (subV b a) (subV d a) := by
  unfold dtV subV shiftF
  grind
theorem hull_times {l : List V2} (h : polyB l = true) {n : Int} (hn : 1 ≤ n) : hullD (l.map (timesF n)) = tidyP (l.map (timesF n)) ∧ polyB (hullD (l.map (timesF n))) = polyB (l.map (timesF n)) :=
  hull_map (poly_conv h) _ _ (Int.mul_pos (by omega) (by omega)) (times_turn n)
theorem hull_shift {l : List V2} (h : polyB l = true) (s : V2) : hullD (l.map (shiftF s)) = tidyP (l.map (shiftF s)) ∧ polyB (hullD (l.map (shiftF s))) = polyB (l.map (shiftF s)) :=
  hull_map (poly_conv h) _ 1 (by omega) (shift_turn s)
theorem times_big {l : List V2} (h : polyB l = true) {n : Int} (hn : 1 ≤ n) (hm : n ≤ 20) : ∀ x ∈ l.map (timesF n), big 400000 x.1 x.2 := by
  intro x hx
  obtain ⟨y, hy, rfl⟩ := List.mem_map.1 hx
  obtain ⟨j, hj, rfl⟩ := List.mem_iff_getElem.1 hy
  have e : l[j] = cyc l j := by rw [cyc_lt hj, List.getElem?_eq_getElem hj]; rfl
  rw [e]
  obtain ⟨⟨h1, h2⟩, h3, h4⟩ := poly_small h j
  generalize (cyc l j) = z at *
  have b : ∀ u : Int, -100 ≤ u → u ≤ 100 → -2000 ≤ n * u ∧ n * u ≤ 2000 := fun u k1 k2 => by
    have q1 := Int.mul_nonneg (show 0 ≤ n by omega) (show 0 ≤ u + 100 by omega)
    have q2 := Int.mul_nonneg (show 0 ≤ n by omega) (show 0 ≤ 100 - u by omega)
    rw [Int.mul_add] at q1
    rw [Int.mul_sub] at q2
    omega
  have q1 := b _ h1 h2
  have q2 := b _ h3 h4
  unfold big timesF
  dsimp only
  omega
theorem shift_big {l : List V2} (h : polyB l = true) {s : V2} (hs : vecB s.1 s.2 = true) : ∀ x ∈ l.map (shiftF s), big 400000 x.1 x.2 := by
  intro x hx
  obtain ⟨y, hy, rfl⟩ := List.mem_map.1 hx
  obtain ⟨j, hj, rfl⟩ := List.mem_iff_getElem.1 hy
  have e : l[j] = cyc l j := by rw [cyc_lt hj, List.getElem?_eq_getElem hj]; rfl
  rw [e]
  have h1 := poly_small h j
  have h2 : (-1000 ≤ s.1 ∧ s.1 ≤ 1000) ∧ -1000 ≤ s.2 ∧ s.2 ≤ 1000 := by
    unfold vecB szB at hs
    simp at hs
    omega
  generalize (cyc l j) = z at *
  unfold big shiftF
  dsimp only
  omega
end Go.Proofs.YtpimhndholckcaaDoor

/- PolygonTimes: both sides. -/
namespace Go.Proofs.YtpimhndholckcaaDoor
open Go.RowKit

theorem small_mul {n u : Int} (h1 : 1 ≤ n) (h2 : n ≤ 20) (k : -100 ≤ u ∧ u ≤ 100) : -2000 ≤ n * u ∧ n * u ≤ 2000 := by
  have q1 := Int.mul_nonneg (show 0 ≤ n by omega) (show 0 ≤ u + 100 by omega)
  have q2 := Int.mul_nonneg (show 0 ≤ n by omega) (show 0 ≤ 100 - u by omega)
  rw [Int.mul_add] at q1
  rw [Int.mul_sub] at q2
  omega
def TimesB (l : List V2) (n : Int) : Bool := polyB l && (decide (1 ≤ n) && decide (n ≤ 20))
def TimesL (l : List V2) (n : Int) : List V2 := gV (TimesB l n && polyB (l.map (timesF n))) (tidyP (l.map (timesF n)))
theorem times_no {l : List V2} {n : Int} (h : TimesB l n = false) : gV (TimesB l n && polyB (l.map (timesF n))) (tidyP (l.map (timesF n))) = [] := by rw [h]; rfl
end Go.Proofs.YtpimhndholckcaaDoor
