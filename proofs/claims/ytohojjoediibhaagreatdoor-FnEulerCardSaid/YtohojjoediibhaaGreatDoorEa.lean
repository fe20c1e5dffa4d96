/- Surfaces by their numbers: plain mathematics on lists: sums of numbers, determinants of tables, rays that are all different. -/
import Derived.Test.YtohojjoediibhaaGreatDoorBe
import Derived.Test.YtohojjoediibhaaGreatDoorBj
import Derived.Test.YtohojjoediibhaaGreatDoorBh
namespace Go.Proofs.YtohojjoediibhaaGreatDoor

/-! 3 and the number of each ray -/
def sum3 (l : List V2) (k : Nat) : Int := sumZ (fun i => 3 + numZ l i) k
theorem sum3_succ (l : List V2) (k : Nat) : sum3 l (k + 1) = sum3 l k + (3 + numZ l k) := rfl
theorem sum3_bnd {l : List V2} (h : Smooth l) {k : Nat} (hk : k ≤ 1000) : -2000003000 ≤ sum3 l k ∧ sum3 l k ≤ 2000003000 := by
  have h1 := sumZ_bnd (f := fun i => 3 + numZ l i) (M := 2000003) (fun i => by have := num_bnd h i; constructor <;> omega) k
  unfold sum3
  omega

theorem num_bdE {l : List V2} (h : allVec l) (i : Nat) : -2000000 ≤ numZ l i ∧ numZ l i ≤ 2000000 := by
  unfold numZ detV detZ
  have h1 := szs (h (i + l.length - 1))
  have h2 := szs (h (i + 1))
  have m1 := mul_bd h1.1 h2.2
  have m2 := mul_bd h1.2 h2.1
  omega
/-! a smooth fan goes round once -/
theorem smooth_round {l : List V2} (h : smoothB l = true) : RndV l.length (cyc l) := by
  obtain ⟨hf, hs⟩ := smooth_in h
  have h3 := fan_len hf
  exact (round_of (by omega) (fun i _ => by rw [allS_at hs (by omega)]; decide) (fan_in hf).2.2).rnd
theorem dtV_self (a : V2) : dtV a a = 0 := by unfold dtV; rw [Int.mul_comm]; omega
theorem det_dt (a b : V2) : detV a b = dtV a b := rfl
theorem rnd_ne {n : Nat} {u : Nat → V2} (h : RndV n u) {j t : Nat} (h0 : 0 < t) (ht : t < n) : u j ≠ u (j + t) := by
  intro e
  by_cases h1 : t + 1 < n
  · have a := h.neg j t (t + 1) h0 (by omega) h1 (by rw [← e, dtV_self]; omega)
    have b := h.turn (j + t)
    rw [← e, show j + t + 1 = j + (t + 1) by omega] at b
    omega
  · have b := h.turn (j + t)
    rw [show j + t + 1 = j + n by omega, h.per, ← e, dtV_self] at b
    omega
theorem ray_ne {l : List V2} (h : smoothB l = true) {i j : Nat} (hi : i < l.length) (hj : j < l.length) (hne : i ≠ j) : cyc l i ≠ cyc l j := by
  have r := smooth_round h
  rcases Nat.lt_or_gt_of_ne hne with c | c
  · have := rnd_ne r (j := i) (t := j - i) (by omega) (by omega)
    rwa [show i + (j - i) = j by omega] at this
  · have := rnd_ne r (j := j) (t := i - j) (by omega) (by omega)
    rw [show j + (i - j) = i by omega] at this
    exact fun e => this e.symm

theorem gz_numsE {l : List V2} {i : Nat} (h : i < l.length) : gz (numsZ l) i = numZ l i := gz_tab _ h
/-! the table -/
/-- the product of rays i + 2 and k + 2 -/
def tabZ (l : List V2) (i k : Nat) : Int := if i = k then numZ l (i + 2) else if i + 1 = k ∨ k + 1 = i then 1 else 0
theorem tab_sym (l : List V2) (i k : Nat) : tabZ l i k = tabZ l k i := by
  unfold tabZ
  by_cases h : i = k
  · subst h; rfl
  · rw [if_neg h, if_neg (show ¬ k = i from fun e => h e.symm)]
    by_cases h2 : i + 1 = k ∨ k + 1 = i
    · rw [if_pos h2, if_pos (by omega)]
    · rw [if_neg h2, if_neg (by omega)]
theorem next_ray {l : List V2} (hS : Smooth l) (h0 : 0 < l.length) (i : Nat) : (cyc l i).1 + (cyc l (i + 2)).1 = -(numZ l (i + 1)) * (cyc l (i + 1)).1 ∧ (cyc l i).2 + (cyc l (i + 2)).2 = -(numZ l (i + 1)) * (cyc l (i + 1)).2 := by
  have e : numZ l (i + 1) = -(detV (cyc l i) (cyc l (i + 2))) := by
    unfold numZ
    rw [show cyc l (i + 1 + l.length - 1) = cyc l i from by rw [show i + 1 + l.length - 1 = i + l.length by omega]; exact cyc_add l i]
  rw [e, Int.neg_neg]
  exact three (hS.2 i) (hS.2 (i + 1))
/-- the determinant of the first j rows -/
def dtJ (l : List V2) (j : Nat) : Int := if j % 2 = 0 then detV (cyc l 1) (cyc l (j + 2)) else -(detV (cyc l 1) (cyc l (j + 2)))
def lastJ (l : List V2) : Nat → Int
  | 0 => 0
  | j + 1 => dtJ l j
theorem lastJ_succ (l : List V2) (j : Nat) : lastJ l (j + 1) = dtJ l j := rfl
theorem dtJ_zero {l : List V2} (hS : Smooth l) : dtJ l 0 = 1 := hS.2 1
theorem dtJ_succ {l : List V2} (hS : Smooth l) (h0 : 0 < l.length) (j : Nat) : dtJ l (j + 1) = numZ l (j + 2) * dtJ l j - lastJ l j := by
  have hr := next_ray hS h0 (j + 1)
  rw [show j + 1 + 2 = j + 3 by omega, show j + 1 + 1 = j + 2 by omega] at hr
  generalize ha : numZ l (j + 2) = a at hr ⊢
  have key : detV (cyc l 1) (cyc l (j + 3)) = -a * detV (cyc l 1) (cyc l (j + 2)) - detV (cyc l 1) (cyc l (j + 1)) := by
    unfold detV detZ
    grind
  cases j with
  | zero =>
    have e0 : detV (cyc l 1) (cyc l (0 + 1)) = 0 := by rw [det_dt]; exact dtV_self _
    unfold dtJ lastJ
    rw [show (0 + 1) % 2 = 1 from rfl, if_neg (by decide), if_pos rfl, show 0 + 1 + 2 = 0 + 3 from rfl, key, e0]
    grind
  | succ j =>
    rw [lastJ_succ]
    unfold dtJ
    rw [show j + 1 + 1 + 2 = j + 1 + 3 by omega, key, show j + 1 + 2 = j + 3 by omega, show j + 1 + 1 = j + 2 by omega]
    rcases Nat.mod_two_eq_zero_or_one j with h | h
    · rw [if_pos (by omega), if_neg (by omega), if_pos h]
      generalize detV (cyc l 1) (cyc l (j + 3)) = x
      generalize detV (cyc l 1) (cyc l (j + 2)) = y
      grind
    · rw [if_neg (by omega), if_pos (by omega), if_neg (by omega)]
      generalize detV (cyc l 1) (cyc l (j + 3)) = x
      generalize detV (cyc l 1) (cyc l (j + 2)) = y
      grind
theorem dtJ_bnd {l : List V2} (hS : Smooth l) (j : Nat) : -2000000 ≤ dtJ l j ∧ dtJ l j ≤ 2000000 := by
  have h1 := szs (hS.1 1)
  have h2 := szs (hS.1 (j + 2))
  have m1 := mul_bd h1.1 h2.2
  have m2 := mul_bd h1.2 h2.1
  unfold dtJ detV detZ
  split <;> omega
theorem lastJ_bnd {l : List V2} (hS : Smooth l) (j : Nat) : -2000000 ≤ lastJ l j ∧ lastJ l j ≤ 2000000 := by
  cases j with
  | zero => show (-2000000 : Int) ≤ 0 ∧ (0 : Int) ≤ 2000000; omega
  | succ j => exact dtJ_bnd hS j
theorem dtJ_term {l : List V2} (hS : Smooth l) (i j : Nat) : -4000000000000 ≤ numZ l i * dtJ l j ∧ numZ l i * dtJ l j ≤ 4000000000000 := by
  have := mul_le (num_bnd hS i) (dtJ_bnd hS j)
  omega
/-- all of them -/
theorem dtJ_all {l : List V2} (hS : Smooth l) (h3 : 3 ≤ l.length) : dtJ l (l.length - 2) = if l.length % 2 = 0 then -1 else 1 := by
  have e : detV (cyc l 1) (cyc l (l.length - 2 + 2)) = -1 := by
    rw [show l.length - 2 + 2 = 0 + l.length by omega, cyc_add]
    have := hS.2 0
    rw [show 0 + 1 = 1 from rfl] at this
    unfold detV detZ at *
    rw [Int.mul_comm (cyc l 1).1, Int.mul_comm (cyc l 1).2]
    omega
  unfold dtJ
  rw [e]
  by_cases h : l.length % 2 = 0
  · rw [if_pos (by omega), if_pos h]
  · rw [if_neg (by omega), if_neg h]; rfl

/-! ample -/
def ampN (n : Int) : Bool := decide (-1 ≤ n)
def amp8 (l : List V2) : Bool := smoothB l && (numsZ l).all ampN
theorem can_times (n : Nat) : timesL (canL n) (-1) = List.replicate n 1 := by
  refine gz_ext (by simp [timesL, canL]) (fun j hj => ?_)
  have hj' : j < n := by simpa [timesL, canL] using hj
  unfold timesL
  rw [gz_tab _ (by simpa [canL] using hj'), can_gz hj']
  simp [gz, hj']
theorem ones_gz {n k : Nat} (h : k < n) : gz (List.replicate n (1 : Int)) k = 1 := by simp [gz, h]
theorem ones_deg {l : List V2} {i : Nat} (hi : i < l.length) : degZ l (List.replicate l.length 1) i = 2 + numZ l i := by
  have h0 : 0 < l.length := by omega
  unfold degZ
  rw [ones_gz (Nat.mod_lt _ h0), ones_gz (Nat.mod_lt _ h0), ones_gz hi]
  omega
theorem amp_degs {l : List V2} : ampL (degsZ l (timesL (canL l.length) (-1))) = (numsZ l).all ampN := by
  rw [can_times]
  unfold ampL degsZ numsZ
  rw [List.all_map, List.all_map, Bool.eq_iff_iff, List.all_eq_true, List.all_eq_true]
  constructor
  · intro H i hi
    have hi' := List.mem_range.1 hi
    have := H i hi
    simp only [Function.comp, ones_deg hi', decide_eq_true_eq, ampN] at this ⊢
    omega
  · intro H i hi
    have hi' := List.mem_range.1 hi
    have := H i hi
    simp only [Function.comp, ones_deg hi', decide_eq_true_eq, ampN] at this ⊢
    omega
end Go.Proofs.YtohojjoediibhaaGreatDoor
