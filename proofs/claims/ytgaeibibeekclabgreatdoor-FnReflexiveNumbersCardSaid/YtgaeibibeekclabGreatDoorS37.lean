import Derived.Test.YtgaeibibeekclabGreatDoorS24
import Derived.Test.YtgaeibibeekclabGreatDoorS36
namespace Go.Proofs.YtgaeibibeekclabGreatDoor
open Go.RowKit
theorem edg_len {l : List V2} (h : reflB l = true) : 3 ≤ (edgL l).length ∧ (edgL l).length ≤ 12 := by
  have a := edg_twelve h
  have b := (edg_E h).three (refl_V h)
  have c : ∀ n, 0 ≤ sumI (fun i => dtV (stepV l i) (stepV l (i + 1))) n := by
    intro n
    induction n with
    | zero => exact Int.le_refl _
    | succ n ih => rw [sumI_succ]; have := (refl_V h).cpos n; omega
  have := c l.length
  omega
theorem pt_small {l : List V2} (h : reflB l = true) {i x : Nat} (hx : x ≤ gN l i) : (-100 ≤ (ptZ l i x).1 ∧ (ptZ l i x).1 ≤ 100) ∧ -100 ≤ (ptZ l i x).2 ∧ (ptZ l i x).2 ≤ 100 := by
  have hV := refl_V h
  have a := poly_small (refl_in h).1 i
  have b := poly_small (refl_in h).1 (i + 1)
  have w1 := hV.way1 i
  have w2 := hV.way2 i
  have hg := hV.pos i
  have key : ∀ (p q s : Int), q = p + gN l i * s → -100 ≤ p → p ≤ 100 → -100 ≤ q → q ≤ 100 → -100 ≤ p + s * x ∧ p + s * x ≤ 100 := by
    intro p q s e h1 h2 h3 h4
    rcases Int.lt_or_le s 0 with c | c
    · have m1 := Int.mul_le_mul_of_nonneg_right (show (x : Int) ≤ gN l i by omega) (show 0 ≤ -s by omega)
      have m2 := Int.mul_nonneg (show (0 : Int) ≤ x by omega) (show 0 ≤ -s by omega)
      rw [Int.mul_neg, Int.mul_neg] at m1
      rw [Int.mul_neg] at m2
      rw [Int.mul_comm s x]
      omega
    · have m1 := Int.mul_le_mul_of_nonneg_right (show (x : Int) ≤ gN l i by omega) c
      have m2 := Int.mul_nonneg (show (0 : Int) ≤ x by omega) c
      rw [Int.mul_comm s x]
      omega
  exact ⟨key _ _ _ w1 a.1.1 a.1.2 b.1.1 b.1.2, key _ _ _ w2 a.2.1 a.2.2 b.2.1 b.2.2⟩
theorem edg_at {l : List V2} (h : reflB l = true) (e : Nat) : ∃ i x, x < gN l i ∧ cyc (edgL l) e = ptZ l i x := by
  obtain ⟨i, x, hx, rfl⟩ := (edg_E h).find (refl_V h) e
  refine ⟨i, x, hx, ?_⟩
  have a := (edg_E h).at1 i x (by omega)
  have b := (edg_E h).at2 i x (by omega)
  rw [Int.mul_comm] at a b
  exact Prod.ext a b
theorem edg_prim {l : List V2} (h : reflB l = true) (e : Nat) : primB (cyc (edgL l) e).1 (cyc (edgL l) e).2 = true := by
  have hv : vecB (cyc (edgL l) e).1 (cyc (edgL l) e).2 = true := by
    obtain ⟨i, x, hx, q⟩ := edg_at h e
    rw [q]
    have := pt_small h (Nat.le_of_lt hx)
    exact vec_of (by omega)
  have h1 := gcd_det ((edg_E h).one (refl_V h) e)
  unfold primB oneB
  rw [hv, h1]
  rfl
/-- the fan of the edge vectors, as FanOf tells it -/
theorem edg_fan {l : List V2} (h : reflB l = true) : ofB (edgL l) = fanB (edgL l) ∧ sortL (edgL l) = tidyL (edgL l) := by
  have h0 : 0 < (edgL l).length := by have := edg_len h; omega
  have hp := edg_prim h
  have hall : AllP (edgL l) := by
    intro v hv
    obtain ⟨i, hi, rfl⟩ := List.mem_iff_getElem.1 hv
    have := hp i
    rwa [cyc_lt hi, List.getElem?_eq_getElem hi] at this
  have hs := tidy_strict h0 (fun i => prim_nz (hp i)) ((edg_E h).rnd (refl_V h))
  have e : tidyL (edgL l) = sortL (edgL l) := sort_is hall hs (fun x => rot_mem x)
  refine ⟨?_, e.symm⟩
  rw [of_fan (fun j _ => hp j), ← e]
  exact fan_rot (Nat.le_of_lt (tidyK_lt h0))
end Go.Proofs.YtgaeibibeekclabGreatDoor
