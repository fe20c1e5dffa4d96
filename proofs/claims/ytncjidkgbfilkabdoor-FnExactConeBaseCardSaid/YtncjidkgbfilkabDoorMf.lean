/- Plain mathematics of fractions: no walk. -/
import Derived.Test.YtncjidkgbfilkabDoorMb
namespace Go.Proofs.YtncjidkgbfilkabDoor
open Go.RowKit
/-- n over q, rounded up -/
def upZ (n q : Int) : Int := (n + q - 1) / q
theorem up_ge {n q : Int} (hq : 0 < q) : n ≤ upZ n q * q := by
  have h := Int.lt_ediv_add_one_mul_self (n + q - 1) hq
  rw [Int.add_mul] at h
  unfold upZ
  omega
theorem up_lt {n q : Int} (hq : 0 < q) : upZ n q * q < n + q := by
  have h := Int.ediv_mul_le (n + q - 1) (b := q) (by omega)
  unfold upZ
  omega
theorem up_is {n q b r : Int} (h : n = b * q - r) (h0 : 0 ≤ r) (hr : r < q) : upZ n q = b := by
  have hq : 0 < q := by omega
  have h1 := up_ge (n := n) hq
  have h2 := up_lt (n := n) hq
  generalize upZ n q = u at h1 h2
  have h3 : 0 ≤ (u - b) * q + r := by rw [Int.sub_mul]; omega
  have h4 : (u - b) * q + r < q := by rw [Int.sub_mul]; omega
  apply Int.le_antisymm
  · by_cases hc : u ≤ b
    · exact hc
    · have : 1 * q ≤ (u - b) * q := Int.mul_le_mul_of_nonneg_right (by omega) (by omega)
      omega
  · by_cases hc : b ≤ u
    · exact hc
    · have : (u - b) * q ≤ (-1) * q := Int.mul_le_mul_of_nonneg_right (by omega) (by omega)
      omega
theorem up_two {n q : Int} (hq : 0 < q) (h : q < n) : 2 ≤ upZ n q := by
  have h1 := up_ge (n := n) hq
  by_cases hc : 2 ≤ upZ n q
  · exact hc
  · have : upZ n q * q ≤ 1 * q := Int.mul_le_mul_of_nonneg_right (by omega) (by omega)
    omega

/-- the fraction of n and q -/
def fracZ (n q : Int) : List Int := if _h : 0 < q then upZ n q :: fracZ q (upZ n q * q - n) else []
termination_by q.toNat
decreasing_by
  have := up_lt (n := n) _h
  omega
theorem frac_zero (n : Int) {q : Int} (h : ¬ 0 < q) : fracZ n q = [] := by rw [fracZ, dif_neg h]
theorem frac_pos (n : Int) {q : Int} (h : 0 < q) : fracZ n q = upZ n q :: fracZ q (upZ n q * q - n) := by rw [fracZ, dif_pos h]

/-- what of a pair is left after a step -/
theorem frac_ind {P : Int → Int → Prop} (h0 : ∀ n q, ¬ 0 < q → P n q) (h1 : ∀ n q, 0 < q → P q (upZ n q * q - n) → P n q) : ∀ n q, P n q := by
  have key : ∀ k : Nat, ∀ n q : Int, q.toNat ≤ k → P n q := by
    intro k
    induction k with
    | zero => intro n q h; exact h0 n q (by omega)
    | succ k ih =>
      intro n q h
      by_cases hq : 0 < q
      · refine h1 n q hq (ih _ _ ?_)
        have := up_lt (n := n) hq
        omega
      · exact h0 n q hq
  exact fun n q => key _ n q (Nat.le_refl _)
theorem frac_len (n q : Int) : (fracZ n q).length ≤ q.toNat := by
  induction n, q using frac_ind with
  | h0 n q h => rw [frac_zero n h]; simp
  | h1 n q h ih =>
    rw [frac_pos n h]
    have := up_lt (n := n) h
    simp only [List.length_cons]
    omega
theorem frac_two : ∀ n q : Int, q < n → ∀ b ∈ fracZ n q, 2 ≤ b := by
  intro n q
  induction n, q using frac_ind with
  | h0 n q h => intro _ b hb; rw [frac_zero n h] at hb; cases hb
  | h1 n q h ih =>
    intro hn b hb
    rw [frac_pos n h] at hb
    rcases List.mem_cons.1 hb with rfl | hb
    · exact up_two h hn
    · exact ih (by have := up_lt (n := n) h; omega) b hb
/-- the first number is at most n -/
theorem up_le {n q : Int} (hq : 0 < q) (hn : 0 < n) : upZ n q ≤ n := by
  have h2 := up_lt (n := n) hq
  by_cases hc : upZ n q ≤ n
  · exact hc
  · have h3 : (n + 1) * q ≤ upZ n q * q := Int.mul_le_mul_of_nonneg_right (by omega) (by omega)
    have h4 : n * 1 ≤ n * q := Int.mul_le_mul_of_nonneg_left (by omega) (by omega)
    rw [Int.add_mul] at h3
    omega

/-- the two numbers of which a list is the fraction -/
def contN : List Int → Int
  | [] => 1
  | b :: l => match l with
    | [] => b
    | c :: t => b * contN (c :: t) - contN t
def contQ : List Int → Int
  | [] => 0
  | _ :: l => contN l
theorem contN_cons (b : Int) (l : List Int) : contN (b :: l) = b * contN l - contQ l := by
  cases l with
  | nil => simp [contN, contQ]
  | cons c t => rw [contN]; rfl
def twoUp (l : List Int) : Prop := ∀ b ∈ l, 2 ≤ b
theorem cont_lt : ∀ {l : List Int}, twoUp l → 0 ≤ contQ l ∧ contQ l < contN l := by
  intro l
  induction l with
  | nil => intro _; exact ⟨by simp [contQ], by simp [contQ, contN]⟩
  | cons b l ih =>
    intro h
    obtain ⟨h1, h2⟩ := ih (fun c hc => h c (List.mem_cons_of_mem _ hc))
    have hb := h b (List.mem_cons_self ..)
    rw [contN_cons]
    show 0 ≤ contN l ∧ contN l < _
    have : 2 * contN l ≤ b * contN l := Int.mul_le_mul_of_nonneg_right hb (by omega)
    exact ⟨by omega, by omega⟩
theorem cont_pos {l : List Int} (h : twoUp l) : 1 ≤ contN l := by have := cont_lt h; omega
theorem twoUp_tail {b : Int} {l : List Int} (h : twoUp (b :: l)) : twoUp l := fun c hc => h c (List.mem_cons_of_mem _ hc)
theorem frac_cont : ∀ {l : List Int}, twoUp l → fracZ (contN l) (contQ l) = l := by
  intro l
  induction l with
  | nil => intro _; exact frac_zero _ (by simp [contQ])
  | cons b l ih =>
    intro h
    have h' := twoUp_tail h
    obtain ⟨h1, h2⟩ := cont_lt h'
    have hq : contQ (b :: l) = contN l := rfl
    have hu : upZ (contN (b :: l)) (contQ (b :: l)) = b := by
      rw [hq]
      exact up_is (contN_cons b l) h1 h2
    rw [frac_pos _ (by rw [hq]; omega), hu, hq, contN_cons]
    rw [show b * contN l - (b * contN l - contQ l) = contQ l by omega, ih h']

theorem gcdZ_eq (a b : Int) : gcdZ a b = (Int.gcd a b : Nat) := rfl
theorem gcd_next (n q b : Int) : gcdZ q (b * q - n) = gcdZ n q := by
  rw [gcdZ_eq, gcdZ_eq]
  congr 1
  rw [Int.gcd_comm n q]
  apply Nat.dvd_antisymm
  · apply Int.dvd_gcd
    · exact Int.gcd_dvd_left ..
    · have h1 := Int.gcd_dvd_left (a := q) (b := b * q - n)
      have h2 := Int.gcd_dvd_right (a := q) (b := b * q - n)
      have := Int.dvd_sub (Int.dvd_trans h1 (Int.dvd_mul_left b q)) h2
      rwa [show b * q - (b * q - n) = n by omega] at this
  · apply Int.dvd_gcd
    · exact Int.gcd_dvd_left ..
    · exact Int.dvd_sub (Int.dvd_trans (Int.gcd_dvd_left ..) (Int.dvd_mul_left b q)) (Int.gcd_dvd_right ..)
theorem cont_frac : ∀ n q : Int, 0 ≤ q → q < n → gcdZ n q = 1 → contN (fracZ n q) = n ∧ contQ (fracZ n q) = q := by
  intro n q
  induction n, q using frac_ind with
  | h0 n q h =>
    intro h0 h1 h2
    have : q = 0 := by omega
    subst this
    rw [frac_zero n h]
    have : n = 1 := by unfold gcdZ at h2; simp at h2; omega
    exact ⟨this.symm, rfl⟩
  | h1 n q h ih =>
    intro h0 h1 h2
    have a1 := up_ge (n := n) h
    have a2 := up_lt (n := n) h
    obtain ⟨e1, e2⟩ := ih (by omega) (by omega) (by rw [gcd_next]; exact h2)
    rw [frac_pos n h, contN_cons, e1, e2]
    exact ⟨by omega, e1⟩
theorem cont_gcd (l : List Int) : gcdZ (contN l) (contQ l) = 1 := by
  induction l with
  | nil => rfl
  | cons b l ih =>
    show gcdZ (contN (b :: l)) (contN l) = 1
    rw [← ih, ← gcd_next (contN l) (contQ l) 0]
    rw [contN_cons]
    rw [gcdZ_eq, gcdZ_eq, Int.gcd_comm (contQ l)]
    congr 1
    rw [Int.gcd_comm (b * contN l - contQ l)]
    rw [show (0 * contQ l - contN l) = -contN l by omega, Int.neg_gcd]
    have := gcd_next (contQ l) (contN l) b
    rw [gcdZ_eq, gcdZ_eq] at this
    have h2 : ((Int.gcd (contN l) (b * contN l - contQ l) : Nat) : Int) = (Int.gcd (contQ l) (contN l) : Nat) := this
    rw [Int.gcd_comm (contN l) (contQ l)]
    omega

/-! the list turned over -/
/- (n, x, q, y) : the matrix is n, -x, q, -y -/
def quad : List Int → Int × Int × Int × Int
  | [] => (1, 0, 0, -1)
  | b :: l => (b * (quad l).1 - (quad l).2.2.1, b * (quad l).2.1 - (quad l).2.2.2, (quad l).1, (quad l).2.1)
theorem quad_n (l : List Int) : (quad l).1 = contN l ∧ (quad l).2.2.1 = contQ l := by
  induction l with
  | nil => exact ⟨rfl, rfl⟩
  | cons b l ih =>
    obtain ⟨h1, h2⟩ := ih
    refine ⟨?_, ?_⟩
    · show b * (quad l).1 - (quad l).2.2.1 = _
      rw [h1, h2, contN_cons]
    · exact h1
theorem quad_snoc (l : List Int) (b : Int) : quad (l ++ [b]) = (b * (quad l).1 - (quad l).2.1, (quad l).1, b * (quad l).2.2.1 - (quad l).2.2.2, (quad l).2.2.1) := by
  induction l with
  | nil => simp [quad]
  | cons c l ih =>
    have e : quad (c :: (l ++ [b])) = (c * (quad (l ++ [b])).1 - (quad (l ++ [b])).2.2.1, c * (quad (l ++ [b])).2.1 - (quad (l ++ [b])).2.2.2, (quad (l ++ [b])).1, (quad (l ++ [b])).2.1) := rfl
    rw [List.cons_append, e, ih]
    generalize hq : quad l = z
    obtain ⟨n, x, q, y⟩ := z
    have e2 : quad (c :: l) = (c * n - q, c * x - y, n, x) := by show (_, _, _, _) = _; rw [hq]
    rw [e2]
    simp only [Prod.mk.injEq, and_true]
    simp only [Int.mul_sub]
    rw [Int.mul_left_comm c b n]
    omega
theorem quad_rev (l : List Int) : quad l.reverse = ((quad l).1, (quad l).2.2.1, (quad l).2.1, (quad l).2.2.2) := by
  induction l with
  | nil => rfl
  | cons b l ih =>
    rw [List.reverse_cons, quad_snoc, ih]
    rfl
theorem quad_det (l : List Int) : (quad l).2.2.1 * (quad l).2.1 - (quad l).1 * (quad l).2.2.2 = 1 := by
  induction l with
  | nil => rfl
  | cons b l ih =>
    generalize hq : quad l = z at ih
    obtain ⟨n, x, q, y⟩ := z
    have e2 : quad (b :: l) = (b * n - q, b * x - y, n, x) := by show (_, _, _, _) = _; rw [hq]
    rw [e2]
    simp only at ih ⊢
    rw [Int.mul_sub, Int.sub_mul, Int.mul_left_comm n b x, Int.mul_assoc b n x]
    omega
theorem cont_rev (l : List Int) : contN l.reverse = contN l ∧ ∃ y, contQ l * contQ l.reverse - 1 = contN l * y := by
  have h := quad_rev l
  have h1 := quad_n l
  have h2 := quad_n l.reverse
  have hd := quad_det l
  rw [h] at h2
  refine ⟨by rw [← h2.1, ← h1.1], (quad l).2.2.2, ?_⟩
  rw [← h2.2, ← h1.1, ← h1.2]
  show (quad l).2.2.1 * (quad l).2.1 - 1 = _
  omega
theorem cont_app_le : ∀ (m l : List Int), twoUp (m ++ l) → contN l ≤ contN (m ++ l) := by
  intro m l
  induction m with
  | nil => intro _; exact Int.le_refl _
  | cons b m ih =>
    intro h
    have h' : twoUp (m ++ l) := twoUp_tail h
    obtain ⟨h1, h2⟩ := cont_lt h'
    have hb := h b (List.mem_cons_self ..)
    have : 2 * contN (m ++ l) ≤ b * contN (m ++ l) := Int.mul_le_mul_of_nonneg_right hb (by omega)
    rw [List.cons_append, contN_cons]
    have := ih h'
    omega

/-! both fractions -/
theorem dual_two {l : List Int} (h : twoUp l) : fracZ (contN (2 :: l)) (contN (2 :: l) - contQ (2 :: l)) = (upZ (contN l) (contN l - contQ l) + 1) :: (fracZ (contN l) (contN l - contQ l)).tail := by
  obtain ⟨h1, h2⟩ := cont_lt h
  rw [contN_cons, show contQ (2 :: l) = contN l from rfl, show 2 * contN l - contQ l - contN l = contN l - contQ l by omega]
  generalize contN l = n at *
  generalize contQ l = q at *
  have hq : 0 < n - q := by omega
  have a1 := up_ge (n := n) hq
  have a2 := up_lt (n := n) hq
  have e : upZ (2 * n - q) (n - q) = upZ n (n - q) + 1 := by
    refine up_is (r := upZ n (n - q) * (n - q) - n) ?_ (by omega) (by omega)
    rw [Int.add_mul]
    omega
  rw [frac_pos _ hq, frac_pos n hq, e, List.tail_cons]
  congr 2
  rw [Int.add_mul]
  omega
theorem dual_up {b : Int} {l : List Int} (hb : 2 ≤ b) (h : twoUp l) : fracZ (contN ((b + 1) :: l)) (contN ((b + 1) :: l) - contQ ((b + 1) :: l)) = 2 :: fracZ (contN (b :: l)) (contN (b :: l) - contQ (b :: l)) := by
  obtain ⟨h1, h2⟩ := cont_lt h
  rw [contN_cons, contN_cons, show contQ (b :: l) = contN l from rfl, show contQ ((b + 1) :: l) = contN l from rfl, Int.add_mul]
  generalize contN l = n at *
  generalize contQ l = q at *
  have : 2 * n ≤ b * n := Int.mul_le_mul_of_nonneg_right hb (by omega)
  have hm : 0 < b * n - q := by omega
  rw [show b * n + 1 * n - q - n = b * n - q by omega]
  have e : upZ (b * n + 1 * n - q) (b * n - q) = 2 := up_is (r := b * n - q - n) (by omega) (by omega) (by omega)
  rw [frac_pos _ hm, e]
  congr 2
  omega
/-- the sum of how much the numbers are above 1 -/
def sumP : List Int → Int
  | [] => 0
  | b :: l => (b - 1) + sumP l
def dualL (l : List Int) : List Int := fracZ (contN l) (contN l - contQ l)
theorem dual_cons {l : List Int} (h : twoUp l) : ∃ c t, dualL l = c :: t ∧ c = upZ (contN l) (contN l - contQ l) := by
  obtain ⟨h1, h2⟩ := cont_lt h
  exact ⟨_, _, frac_pos _ (by omega), rfl⟩
theorem dual_sum : ∀ {l : List Int}, twoUp l → sumP (dualL l) = sumP l ∧ sumP l = l.length + (dualL l).length - 1 := by
  intro l
  induction l with
  | nil =>
    intro _
    have e : dualL [] = [1] := by
      show fracZ 1 (1 - 0) = [1]
      rw [frac_pos _ (by omega)]
      have : upZ 1 (1 - 0) = 1 := by decide
      rw [this, frac_zero _ (by omega)]
    rw [e]; decide
  | cons b l ih =>
    intro h
    have h' := twoUp_tail h
    obtain ⟨i1, i2⟩ := ih h'
    have hb := h b (List.mem_cons_self ..)
    have key : ∀ k : Nat, sumP (dualL ((2 + k : Int) :: l)) = sumP ((2 + k : Int) :: l) ∧ sumP ((2 + k : Int) :: l) = ((2 + k : Int) :: l).length + (dualL ((2 + k : Int) :: l)).length - 1 := by
      intro k
      induction k with
      | zero =>
        obtain ⟨c, t, e, hc⟩ := dual_cons h'
        have e2 : dualL ((2 + (0 : Nat) : Int) :: l) = (c + 1) :: t := by
          show fracZ (contN (2 :: l)) (contN (2 :: l) - contQ (2 :: l)) = _
          rw [dual_two h', ← hc, show fracZ (contN l) (contN l - contQ l) = c :: t from e]
          rfl
        rw [e] at i1 i2
        rw [e2]
        simp only [sumP, List.length_cons] at i1 i2 ⊢
        omega
      | succ k ihk =>
        obtain ⟨j1, j2⟩ := ihk
        have e2 : dualL ((2 + (k + 1 : Nat) : Int) :: l) = 2 :: dualL ((2 + k : Int) :: l) := by
          rw [show (2 + (k + 1 : Nat) : Int) = (2 + k : Int) + 1 by omega]
          exact dual_up (by omega) h'
        rw [e2]
        simp only [sumP, List.length_cons] at j1 j2 ⊢
        omega
    have := key (b - 2).toNat
    rwa [show (2 + ((b - 2).toNat : Int)) = b by omega] at this
theorem dual_cont {l : List Int} (h : twoUp l) (hl : l ≠ []) : contN (dualL l) = contN l ∧ contQ (dualL l) = contN l - contQ l := by
  obtain ⟨h1, h2⟩ := cont_lt h
  have hq : 0 < contQ l := by
    cases l with
    | nil => exact absurd rfl hl
    | cons b t => have := cont_pos (twoUp_tail h); exact this
  refine cont_frac _ _ (by omega) (by omega) ?_
  rw [← cont_gcd l, gcdZ_eq, gcdZ_eq]
  congr 1
  rw [Int.gcd_comm]
  have e := gcd_next (contQ l) (contN l) 1
  rw [gcdZ_eq, gcdZ_eq, Int.one_mul] at e
  have e2 : ((Int.gcd (contN l) (contN l - contQ l) : Nat) : Int) = (Int.gcd (contQ l) (contN l) : Nat) := e
  rw [Int.gcd_comm (contN l) (contQ l), Int.gcd_comm]
  omega
theorem dual_dual {l : List Int} (h : twoUp l) (hl : l ≠ []) : dualL (dualL l) = l := by
  obtain ⟨e1, e2⟩ := dual_cont h hl
  show fracZ (contN (dualL l)) (contN (dualL l) - contQ (dualL l)) = l
  rw [e1, e2, show contN l - (contN l - contQ l) = contQ l by omega]
  exact frac_cont h
end Go.Proofs.YtncjidkgbfilkabDoor
