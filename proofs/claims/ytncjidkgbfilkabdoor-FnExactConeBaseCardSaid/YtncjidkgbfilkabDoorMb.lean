/- The greatest common divisor, in plain numbers. -/
import Derived.Test.YtncjidkgbfilkabDoorMa
namespace Go.Proofs.YtncjidkgbfilkabDoor
open Go.RowKit
def gcdZ (a b : Int) : Int := (Nat.gcd a.natAbs b.natAbs : Nat)
theorem gcdZ_step (x y : Int) : gcdZ y (x.tmod y) = gcdZ x y := by
  unfold gcdZ
  rw [Int.natAbs_tmod, Nat.gcd_comm x.natAbs y.natAbs]
  conv => rhs; rw [Nat.gcd_rec]
  rw [Nat.gcd_comm]
theorem gcdZ_zero (x : Int) : gcdZ x 0 = max x (-x) := by
  unfold gcdZ
  simp
  omega
theorem gcdZ_nonneg (x y : Int) : 0 ≤ gcdZ x y := by unfold gcdZ; omega
theorem gcdZ_pos {x y : Int} (h : ¬ (x = 0 ∧ y = 0)) : 1 ≤ gcdZ x y := by
  unfold gcdZ
  have : 0 < Nat.gcd x.natAbs y.natAbs := by
    rcases Nat.eq_zero_or_pos x.natAbs with hx | hx
    · rcases Nat.eq_zero_or_pos y.natAbs with hy | hy
      · exact absurd ⟨by omega, by omega⟩ h
      · exact Nat.gcd_pos_of_pos_right _ hy
    · exact Nat.gcd_pos_of_pos_left _ hx
  omega
theorem gcdZ_le {x y : Int} {n : Int} (hx : -n ≤ x ∧ x ≤ n) (hy : -n ≤ y ∧ y ≤ n) : gcdZ x y ≤ n := by
  unfold gcdZ
  rcases Nat.eq_zero_or_pos x.natAbs with h0 | h0
  · rw [h0, Nat.gcd_zero_left]; omega
  · have := Nat.le_of_dvd h0 (Nat.gcd_dvd_left x.natAbs y.natAbs); omega
theorem gcdZ_abs (x y : Int) : gcdZ (max x (-x)) (max y (-y)) = gcdZ x y := by
  unfold gcdZ
  rw [show (max x (-x)).natAbs = x.natAbs by omega, show (max y (-y)).natAbs = y.natAbs by omega]
theorem tmod_bd {x y n : Int} (hx : -n ≤ x ∧ x ≤ n) : -n ≤ x.tmod y ∧ x.tmod y ≤ n := by
  have h : (x.tmod y).natAbs ≤ x.natAbs := by
    rw [Int.natAbs_tmod]
    exact Nat.mod_le x.natAbs y.natAbs
  omega
theorem tmod_lt {x y : Int} (hy : y ≠ 0) : (x.tmod y).natAbs < y.natAbs := by
  rw [Int.natAbs_tmod]
  exact Nat.mod_lt _ (by omega)
theorem tdiv_bd {x n m : Int} (hx : -n ≤ x ∧ x ≤ n) : -n ≤ x.tdiv m ∧ x.tdiv m ≤ n := by
  have h : (x.tdiv m).natAbs ≤ x.natAbs := by
    rw [Int.natAbs_tdiv]
    exact Nat.div_le_self x.natAbs m.natAbs
  omega
def nzB (x y : Int) : Bool := !(x == 0 && y == 0)
def primOk (x y : Int) : Bool := vecB x y && nzB x y
theorem nz_ne {x y : Int} (h : x ≠ 0) : nzB x y = true := by simp [nzB, h]
theorem nz_ne2 {y : Int} (h : y ≠ 0) : nzB 0 y = true := by simp [nzB, h]
end Go.Proofs.YtncjidkgbfilkabDoor
