import Derived.Test.YtgaeibibeekclabGreatDoorProg
import Derived.Test.YtgaeibibeekclabGreatDoorS01
import Derived.WalkKit
import Derived.LaidEql
import Derived.Stop.Asserts
import Derived.RowKitTokens
import Derived.Handy
import Derived.WalkSpells
import Derived.WalkLawsBesides
import Derived.Deep.QuietTactic
import Derived.BigQuiet
import Derived.Lib.Hide
namespace Go.Proofs.YtgaeibibeekclabGreatDoor
open Go.RowKit
theorem szB_mk {a : Int} (h1 : -1000 ≤ a) (h2 : a ≤ 1000) : szB a = true := by simp [szB, h1, h2]
end Go.Proofs.YtgaeibibeekclabGreatDoor
namespace Go.Proofs.YtgaeibibeekclabGreatDoor
open Go.RowKit
def twoOk (x1 y1 x2 y2 : Int) : Bool := vecB x1 y1 && vecB x2 y2
end Go.Proofs.YtgaeibibeekclabGreatDoor
namespace Go.Proofs.YtgaeibibeekclabGreatDoor
open Go.RowKit
/-- a vector whose product with a primitive one is 1 -/
def partZ (x y : Int) : Int × Int := if _h : y = 0 then (x, 0) else ((partZ y (x.tmod y)).2, (partZ y (x.tmod y)).1 - x.tdiv y * (partZ y (x.tmod y)).2)
termination_by y.natAbs
decreasing_by exact tmod_lt _h
theorem part_zero (x : Int) : partZ x 0 = (x, 0) := by rw [partZ, dif_pos rfl]
theorem part_step (x : Int) {y : Int} (h : y ≠ 0) : partZ x y = ((partZ y (x.tmod y)).2, (partZ y (x.tmod y)).1 - x.tdiv y * (partZ y (x.tmod y)).2) := by rw [partZ, dif_neg h]
theorem part_ind {P : Int → Int → Prop} (h0 : ∀ x, P x 0) (h1 : ∀ x y, y ≠ 0 → P y (x.tmod y) → P x y) : ∀ x y, P x y := by
  have key : ∀ k : Nat, ∀ x y : Int, y.natAbs ≤ k → P x y := by
    intro k
    induction k with
    | zero => intro x y h; have : y = 0 := by omega
              subst this; exact h0 x
    | succ k ih =>
      intro x y h
      by_cases hy : y = 0
      · subst hy; exact h0 x
      · refine h1 x y hy (ih _ _ ?_)
        have := tmod_lt (x := x) hy
        omega
  exact fun x y => key _ x y (Nat.le_refl _)
theorem part_one : ∀ x y : Int, gcdZ x y = 1 → (partZ x y).1 * x + (partZ x y).2 * y = 1 := by
  intro x y
  induction x, y using part_ind with
  | h0 x =>
    intro h
    rw [part_zero]
    have : x = 1 ∨ x = -1 := by unfold gcdZ at h; simp at h; omega
    rcases this with rfl | rfl <;> rfl
  | h1 x y hy ih =>
    intro h
    rw [← gcdZ_step] at h
    have := ih h
    rw [part_step x hy]
    generalize partZ y (x.tmod y) = m at *
    obtain ⟨a, b⟩ := m
    simp only at this ⊢
    have e := Int.mul_tdiv_add_tmod x y
    rw [Int.sub_mul, Int.mul_assoc, Int.mul_left_comm, ]
    have e2 : x.tmod y = x - y * x.tdiv y := by omega
    rw [e2, Int.mul_sub] at this
    have e3 : b * (y * x.tdiv y) = x.tdiv y * (b * y) := by rw [← Int.mul_assoc, Int.mul_comm]
    have e4 : b * (x.tdiv y * y) = x.tdiv y * (b * y) := by rw [Int.mul_left_comm]
    omega
end Go.Proofs.YtgaeibibeekclabGreatDoor
namespace Go.Proofs.YtgaeibibeekclabGreatDoor
open Go.RowKit
theorem posB_false {a b c d : Int} (h : posB a b c d = false) : detZ a b c d ≤ 0 := by simpa [posB] using h
/-- the ways on which a pair of vectors is no cone, as the program asks them -/
theorem cone_out {a b c d : Int} (h : coneB a b c d = false) : twoOk a b c d = false ∨ (vecB a b = true ∧ vecB c d = true ∧ (oneB a b = false ∨ (oneB a b = true ∧ oneB c d = false) ∨ (oneB a b = true ∧ oneB c d = true ∧ posB a b c d = false))) := by
  cases h1 : vecB a b
  · exact .inl (by simp [twoOk, h1])
  · cases h2 : vecB c d
    · exact .inl (by simp [twoOk, h2])
    · refine .inr ⟨rfl, rfl, ?_⟩
      cases h3 : oneB a b <;> cases h4 : oneB c d <;> simp [coneB, primB, h1, h2, h3, h4] at h ⊢
      exact h
theorem det_sz {a b c d : Int} (h1 : vecB a b = true) (h2 : vecB c d = true) : -2000000 ≤ detZ a b c d ∧ detZ a b c d ≤ 2000000 := by
  obtain ⟨a1, b1⟩ := szs h1
  obtain ⟨a2, b2⟩ := szs h2
  have := mul_bd a1 b2
  have := mul_bd b1 a2
  unfold detZ
  omega
end Go.Proofs.YtgaeibibeekclabGreatDoor
