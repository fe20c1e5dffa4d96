/- FnPrimitive. -/
import Derived.Test.YtcieihbknfeddaaDoorBs
namespace Go.Proofs.YtcieihbknfeddaaDoor
open Go.RowKit

theorem gcd_dvd (x y : Int) : gcdZ x y ∣ x ∧ gcdZ x y ∣ y := by
  unfold gcdZ
  exact ⟨Int.ofNat_dvd_left.2 (Nat.gcd_dvd_left _ _), Int.ofNat_dvd_left.2 (Nat.gcd_dvd_right _ _)⟩
theorem tdiv_mul {x g : Int} (h : g ∣ x) : x.tdiv g * g = x := Int.tdiv_mul_cancel h
theorem prim_own {x y : Int} (k : primOk x y = true) : x.tdiv (gcdZ x y) * gcdZ x y = x ∧ y.tdiv (gcdZ x y) * gcdZ x y = y ∧ timesOk (x.tdiv (gcdZ x y)) (y.tdiv (gcdZ x y)) (gcdZ x y) = true ∧ primOk (x.tdiv (gcdZ x y)) (y.tdiv (gcdZ x y)) = true ∧ gcdZ (x.tdiv (gcdZ x y)) (y.tdiv (gcdZ x y)) = 1 ∧ 0 < gcdZ x y := by
  unfold primOk at k
  rw [Bool.and_eq_true] at k
  obtain ⟨k1, k2⟩ := k
  obtain ⟨hx, hy⟩ := szs k1
  have hne : ¬ (x = 0 ∧ y = 0) := by rintro ⟨rfl, rfl⟩; simp [nzB] at k2
  have hp := gcdZ_pos hne
  have hl := gcdZ_le (x := x) (y := y) (n := 1000) hx hy
  obtain ⟨d1, d2⟩ := gcd_dvd x y
  have e1 := tdiv_mul d1
  have e2 := tdiv_mul d2
  have b1 := tdiv_bd (m := gcdZ x y) hx
  have b2 := tdiv_bd (m := gcdZ x y) hy
  have v1 := vec_mk b1 b2
  have hg : gcdZ (x.tdiv (gcdZ x y)) (y.tdiv (gcdZ x y)) = 1 := by
    have h3 : gcdZ (x.tdiv (gcdZ x y) * gcdZ x y) (y.tdiv (gcdZ x y) * gcdZ x y) = gcdZ (x.tdiv (gcdZ x y)) (y.tdiv (gcdZ x y)) * gcdZ x y := by
      generalize x.tdiv (gcdZ x y) = p
      generalize y.tdiv (gcdZ x y) = q
      have h0 : 0 ≤ gcdZ x y := by omega
      generalize gcdZ x y = g at *
      obtain ⟨m, rfl⟩ := Int.eq_ofNat_of_zero_le h0
      unfold gcdZ
      rw [Int.natAbs_mul, Int.natAbs_mul, Int.natAbs_natCast, Nat.gcd_mul_right]
      simp
    rw [e1, e2] at h3
    have h4 : gcdZ (x.tdiv (gcdZ x y)) (y.tdiv (gcdZ x y)) * gcdZ x y = 1 * gcdZ x y := by rw [Int.one_mul]; exact h3.symm
    exact Int.eq_of_mul_eq_mul_right (by omega) h4
  refine ⟨e1, e2, ?_, ?_, hg, by omega⟩
  · unfold timesOk
    rw [e1, e2, v1, k1, szB_mk (by omega) hl]
    rfl
  · unfold primOk
    rw [v1]
    show nzB _ _ = true
    cases hn : nzB (x.tdiv (gcdZ x y)) (y.tdiv (gcdZ x y))
    · exfalso
      have h0 : x.tdiv (gcdZ x y) = 0 ∧ y.tdiv (gcdZ x y) = 0 := by simpa [nzB] using hn
      rw [h0.1, Int.zero_mul] at e1
      rw [h0.2, Int.zero_mul] at e2
      exact hne ⟨e1.symm, e2.symm⟩
    · rfl
end Go.Proofs.YtcieihbknfeddaaDoor
