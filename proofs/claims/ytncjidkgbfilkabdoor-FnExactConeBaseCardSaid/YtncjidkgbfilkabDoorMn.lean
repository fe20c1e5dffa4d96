/- Plain mathematics of cones: what a cone is. -/
import Derived.Test.YtncjidkgbfilkabDoorMk
import Derived.Test.YtncjidkgbfilkabDoorMf
import Derived.Test.YtncjidkgbfilkabDoorMc
namespace Go.Proofs.YtncjidkgbfilkabDoor
open Go.RowKit

def oneB (x y : Int) : Bool := gcdZ x y == 1
def primB (x y : Int) : Bool := vecB x y && oneB x y
def posB (a b c d : Int) : Bool := decide (0 < detZ a b c d)
def coneB (a b c d : Int) : Bool := primB a b && (primB c d && posB a b c d)
theorem oneB_true {x y : Int} (h : oneB x y = true) : gcdZ x y = 1 := by simpa [oneB] using h
theorem posB_true {a b c d : Int} (h : posB a b c d = true) : 0 < detZ a b c d := by simpa [posB] using h
theorem posB_false {a b c d : Int} (h : posB a b c d = false) : detZ a b c d ≤ 0 := by simpa [posB] using h
theorem prim_in {x y : Int} (h : primB x y = true) : vecB x y = true ∧ oneB x y = true := by simpa [primB] using h
theorem prim_out {x y : Int} (h : primB x y = false) : vecB x y = false ∨ (vecB x y = true ∧ oneB x y = false) := by
  cases hv : vecB x y
  · exact .inl rfl
  · exact .inr ⟨rfl, by simpa [primB, hv] using h⟩
theorem cone_in {a b c d : Int} (h : coneB a b c d = true) : vecB a b = true ∧ oneB a b = true ∧ vecB c d = true ∧ oneB c d = true ∧ posB a b c d = true := by
  have h' : primB a b = true ∧ primB c d = true ∧ posB a b c d = true := by simpa [coneB] using h
  obtain ⟨h1, h2, h3⟩ := h'
  obtain ⟨h4, h5⟩ := prim_in h1
  obtain ⟨h6, h7⟩ := prim_in h2
  exact ⟨h4, h5, h6, h7, h3⟩
/-- the ways on which a pair of vectors is no cone, as the program asks them -/
theorem cone_out {a b c d : Int} (h : coneB a b c d = false) : twoOk a b c d = false ∨ (vecB a b = true ∧ vecB c d = true ∧ (oneB a b = false ∨ (oneB a b = true ∧ oneB c d = false) ∨ (oneB a b = true ∧ oneB c d = true ∧ posB a b c d = false))) := by
  cases h1 : vecB a b
  · exact .inl (by simp [twoOk, h1])
  · cases h2 : vecB c d
    · exact .inl (by simp [twoOk, h2])
    · refine .inr ⟨rfl, rfl, ?_⟩
      cases h3 : oneB a b <;> cases h4 : oneB c d <;> simp [coneB, primB, h1, h2, h3, h4] at h ⊢
      exact h
/-- and as the model asks them -/
theorem cone_out2 {a b c d : Int} (h : coneB a b c d = false) : primB a b = false ∨ (primB a b = true ∧ primB c d = false) ∨ (primB a b = true ∧ primB c d = true ∧ posB a b c d = false) := by
  cases h1 : primB a b <;> cases h2 : primB c d <;> simp [coneB, h1, h2] at h ⊢
  exact h
theorem det_sz {a b c d : Int} (h1 : vecB a b = true) (h2 : vecB c d = true) : -2000000 ≤ detZ a b c d ∧ detZ a b c d ≤ 2000000 := by
  obtain ⟨a1, b1⟩ := szs h1
  obtain ⟨a2, b2⟩ := szs h2
  have := mul_bd a1 b2
  have := mul_bd b1 a2
  unfold detZ
  omega
theorem dot_sz {a b c d : Int} (h1 : vecB a b = true) (h2 : vecB c d = true) : -2000000 ≤ dotZ a b c d ∧ dotZ a b c d ≤ 2000000 := by
  obtain ⟨a1, b1⟩ := szs h1
  obtain ⟨a2, b2⟩ := szs h2
  have := mul_bd a1 a2
  have := mul_bd b1 b2
  unfold dotZ
  omega
/-- whether a vector is in a cone -/
def inB (a b c d x y : Int) : Bool := decide (0 ≤ detZ x y c d) && decide (0 ≤ detZ a b x y)
def cvOk (a b c d x y : Int) : Bool := coneB a b c d && vecB x y
def hasOk (a b c d x y : Int) : Bool := cvOk a b c d x y && inB a b c d x y
def cmOk (a b c d e f g h : Int) : Bool := coneB a b c d && matB e f g h

/-! the rest -/
theorem rest_is {a n : Int} (h : 0 < n) : (a.tmod n + n).tmod n = a % n := by
  have h1 : -n < a.tmod n := by
    have := Int.tmod_lt_of_pos (-a) h
    rw [Int.neg_tmod] at this
    omega
  rw [Int.tmod_eq_emod_of_nonneg (by omega), Int.add_emod_right]
  have := Int.mul_tdiv_add_tmod a n
  conv => rhs; rw [← this]
  rw [Int.add_comm, Int.add_mul_emod_self_left]
theorem tmod_bds {a n : Int} (h : 0 < n) : -n < a.tmod n ∧ a.tmod n < n := by
  constructor
  · have := Int.tmod_lt_of_pos (-a) h
    rw [Int.neg_tmod] at this
    omega
  · exact Int.tmod_lt_of_pos a h
theorem tmod_zero {a n : Int} : (a.tmod n == 0) = true ↔ n ∣ a := by
  rw [beq_iff_eq]
  exact ⟨Int.dvd_of_tmod_eq_zero, fun h => Int.tmod_eq_zero_of_dvd h⟩
def kindC (a b c d : Int) : Int := kindZ a b c d
theorem kindC_rng {a b c d : Int} (h : coneB a b c d = true) : 0 ≤ kindC a b c d ∧ kindC a b c d < detZ a b c d := by
  obtain ⟨_, _, _, _, hp⟩ := cone_in h
  exact kind_rng (posB_true hp)
theorem kindC_is {a b c d : Int} : (-(dotZ (partZ a b).1 (partZ a b).2 c d)) % detZ a b c d = kindC a b c d := rfl
/-- what the model asks of a number holds of the kind alone -/
def kindAsk (a b c d q : Int) : Bool := ((q * a + c).tmod (detZ a b c d) == 0) && ((q * b + d).tmod (detZ a b c d) == 0)
theorem kindAsk_is {a b c d q : Int} (h : coneB a b c d = true) (h0 : 0 ≤ q) (h1 : q < detZ a b c d) : kindAsk a b c d q = (q == kindC a b c d) := by
  obtain ⟨_, o1, _, _, hp⟩ := cone_in h
  rw [Bool.eq_iff_iff]
  simp only [kindAsk, Bool.and_eq_true, tmod_zero]
  rw [beq_iff_eq]
  constructor
  · rintro ⟨h2, h3⟩
    exact kind_only (oneB_true o1) h0 h1 h2 h3
  · rintro rfl
    exact kind_fits (oneB_true o1)
/-- the fraction of a cone -/
def fracC (a b c d : Int) : List Int := fracZ (detZ a b c d) (kindC a b c d)
/-! moved cones -/
def negM (e f g h : Int) : Bool := decide (detM e f g h < 0)
def pick2 (k : Bool) (x y : Int) : Int := if k then x else y
def cmA (a b c d e f g h : Int) : Int := pick2 (negM e f g h) (moveX e f c d) (moveX e f a b)
def cmB (a b c d e f g h : Int) : Int := pick2 (negM e f g h) (moveX g h c d) (moveX g h a b)
def cmC (a b c d e f g h : Int) : Int := pick2 (negM e f g h) (moveX e f a b) (moveX e f c d)
def cmD (a b c d e f g h : Int) : Int := pick2 (negM e f g h) (moveX g h a b) (moveX g h c d)
def cmvOk (a b c d e f g h : Int) : Bool := cmOk a b c d e f g h && coneB (cmA a b c d e f g h) (cmB a b c d e f g h) (cmC a b c d e f g h) (cmD a b c d e f g h)
theorem cm_in {a b c d e f g h : Int} (k : cmOk a b c d e f g h = true) : coneB a b c d = true ∧ matB e f g h = true := by simpa [cmOk] using k
end Go.Proofs.YtncjidkgbfilkabDoor
