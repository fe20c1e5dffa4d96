import Derived.Test.YtnhanbaaclkjaaaB1
import Derived.Deep.RegionHeld3
import Derived.Deep.DeepCutAuto
import Derived.Handy
namespace Go.Proofs.Ytnhanbaaclkjaaa
open Go.RowKit

set_option maxHeartbeats 400000 in
theorem l6In_any (a lo hi : Int) (w : World) :
    Calls Try.prog 16 #[.int .i64 a, .int .i64 lo, .int .i64 hi] w fun e w' => e = .returned (.bool (decide (lo ≤ a) && decide (a ≤ hi))) ∧ w = w' := by
  go_enter Try.func16, Try.ntmps16
  go_wp2
  all_goals go_returns
  all_goals (refine ⟨ret_bool ?_, rfl⟩; rw [Bool.eq_iff_iff]; simp; try omega)
/-! the law of VecIn -/
end Go.Proofs.Ytnhanbaaclkjaaa

namespace Go.Proofs.Ytnhanbaaclkjaaa
open Go.RowKit

/-! checkAll over two vectors -/
/-! made, l1Done -/
end Go.Proofs.Ytnhanbaaclkjaaa

namespace Go.Proofs.Ytnhanbaaclkjaaa
open Go.RowKit

/-! the plain methods of vectors -/
/-! VecAdd, both sides -/
end Go.Proofs.Ytnhanbaaclkjaaa

namespace Go.Proofs.Ytnhanbaaclkjaaa
open Go.RowKit

/-! eqVec at one vector twice -/
set_option maxHeartbeats 400000 in
theorem eqVec_same (x y : Int) (w : World) :
    Calls Try.prog 20 #[.agg #[.int .i64 (x), .int .i64 (y)], .agg #[.int .i64 (x), .int .i64 (y)]] w fun e w' => e = .returned (.bool true) ∧ Below w.heap.size w w' := by
  go_enter Try.func20, Try.ntmps20
  go_wp2
  go_returns
  exact ⟨rfl, by go_grown⟩

end Go.Proofs.Ytnhanbaaclkjaaa

namespace Go.Proofs.Ytnhanbaaclkjaaa
open Go.RowKit

/-! VecTimes -/
/-! VecDet, VecProduct -/
/-! VecTurn -/
end Go.Proofs.Ytnhanbaaclkjaaa

namespace Go.Proofs.Ytnhanbaaclkjaaa
open Go.RowKit

theorem ret_int {a b : Int} (h : a = b) : Ending.returned (.int .i64 a) = .returned (.int .i64 b) := by rw [h]

end Go.Proofs.Ytnhanbaaclkjaaa

namespace Go.Proofs.Ytnhanbaaclkjaaa
open Go.RowKit

end Go.Proofs.Ytnhanbaaclkjaaa

namespace Go.Proofs.Ytnhanbaaclkjaaa
open Go.RowKit

/-! checkAll over a matrix and a vector -/
/-! where a matrix moves a vector -/
theorem move_bd {a b x y : Int} (ha : szB a = true) (hb : szB b = true) (hx : szB x = true) (hy : szB y = true) : (-1000000 ≤ a * x ∧ a * x ≤ 1000000) ∧ (-1000000 ≤ b * y ∧ b * y ≤ 1000000) :=
  ⟨mul_bd (szB_true ha) (szB_true hx), mul_bd (szB_true hb) (szB_true hy)⟩
end Go.Proofs.Ytnhanbaaclkjaaa

namespace Go.Proofs.Ytnhanbaaclkjaaa
open Go.RowKit

/-! VecAhead -/
def backB (x y : Int) : Bool := decide (y < 0) || (decide (y = 0) && decide (x < 0))
def frontB (x y : Int) : Bool := decide (0 < y) || (decide (y = 0) && decide (0 < x))
theorem front_back {x y : Int} (h : nzB x y = true) : frontB x y = !backB x y := by
  have h' : ¬ (x = 0 ∧ y = 0) := by rintro ⟨rfl, rfl⟩; simp [nzB] at h
  rw [Bool.eq_iff_iff]
  simp [frontB, backB]
  omega
def halfN (x y : Int) : Int := if frontB x y then 0 else 1
/-- the order of two directions that are not 0 -/
def aheadB (x1 y1 x2 y2 : Int) : Bool := if backB x1 y1 == backB x2 y2 then decide (0 < detZ x1 y1 x2 y2) else backB x2 y2
def aheadOk (x1 y1 x2 y2 : Int) : Bool := twoOk x1 y1 x2 y2 && (nzB x1 y1 && (nzB x2 y2 && aheadB x1 y1 x2 y2))

theorem half_back {x y : Int} (h : nzB x y = true) (k : backB x y = true) : halfN x y = 1 := by
  unfold halfN
  rw [front_back h, k]; rfl
theorem half_front {x y : Int} (h : nzB x y = true) (k : backB x y = false) : halfN x y = 0 := by
  unfold halfN
  rw [front_back h, k]; rfl
theorem half_is {x y : Int} (h : nzB x y = true) : (backB x y = true ∧ halfN x y = 1) ∨ (backB x y = false ∧ halfN x y = 0) := by
  cases k : backB x y
  · exact .inr ⟨rfl, half_front h k⟩
  · exact .inl ⟨rfl, half_back h k⟩
theorem nz_cases {x y : Int} (h : nzB x y = true) : (x == 0) = false ∨ ((x == 0) = true ∧ (y == 0) = false) := by
  cases hx : (x == 0) <;> cases hy : (y == 0) <;> simp [nzB, hx, hy] at h ⊢
theorem z_cases {x y : Int} (h : nzB x y = false) : (x == 0) = true ∧ (y == 0) = true := by
  cases hx : (x == 0) <;> cases hy : (y == 0) <;> simp [nzB, hx, hy] at h ⊢

end Go.Proofs.Ytnhanbaaclkjaaa
