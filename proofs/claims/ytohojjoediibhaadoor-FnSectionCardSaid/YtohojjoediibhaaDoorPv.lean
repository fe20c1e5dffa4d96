/- The draws of the promises of chapter 1. -/
import Derived.Test.YtohojjoediibhaaDoorDm
import Derived.Test.YtohojjoediibhaaDoorTp
import Derived.Test.YtohojjoediibhaaDoorTi
import Derived.Laws.StructEq
namespace Go.Proofs.YtohojjoediibhaaDoor
open Go.RowKit

theorem giv {f : FuncId} {args : Array Value} {w : World} {v v' : Value} (h : Calls Tryd.prog f args w fun e w' => e = .returned v ∧ Below w.heap.size w w') (e : v = v') : Calls Tryd.prog f args w fun e w' => e = .returned v' ∧ Below w.heap.size w w' := by
  subst e
  exact h
def OneVec (w : World) (e : Ending) (w' : World) : Prop := ∃ x y : Int, e = .returned (.agg #[.int .i64 (x), .int .i64 (y)]) ∧ Below w.heap.size w w'
theorem times_neg {x y : Int} (k : vecB x y = true) : timesOk x y (-1) = true := by
  obtain ⟨⟨_, _⟩, ⟨_, _⟩⟩ := szs k
  have e1 : szB (x * -1) = true := szB_mk (by omega) (by omega)
  have e2 : szB (y * -1) = true := szB_mk (by omega) (by omega)
  unfold timesOk
  rw [k]
  unfold vecB
  rw [e1, e2]
  rfl
theorem vec_mk {x y : Int} (h1 : -1000 ≤ x ∧ x ≤ 1000) (h2 : -1000 ≤ y ∧ y ≤ 1000) : vecB x y = true := by
  unfold vecB
  rw [szB_mk h1.1 h1.2, szB_mk h2.1 h2.2]
  rfl
theorem two_in {x1 y1 x2 y2 : Int} (h : twoOk x1 y1 x2 y2 = true) : vecB x1 y1 = true ∧ vecB x2 y2 = true := by simpa [twoOk] using h
theorem two_mk {x1 y1 x2 y2 : Int} (h1 : vecB x1 y1 = true) (h2 : vecB x2 y2 = true) : twoOk x1 y1 x2 y2 = true := by
  unfold twoOk
  rw [h1, h2]
  rfl
theorem add_in {x1 y1 x2 y2 : Int} (h : addOk x1 y1 x2 y2 = true) : vecB x1 y1 = true ∧ vecB x2 y2 = true ∧ vecB (x1 + x2) (y1 + y2) = true := by
  unfold addOk at h
  simp only [Bool.and_eq_true] at h
  exact ⟨h.1.1, h.1.2, h.2⟩
theorem add_mk {x1 y1 x2 y2 : Int} (h1 : vecB x1 y1 = true) (h2 : vecB x2 y2 = true) (h3 : vecB (x1 + x2) (y1 + y2) = true) : addOk x1 y1 x2 y2 = true := by
  unfold addOk
  rw [h1, h2, h3]
  rfl
theorem turn_in {x y : Int} (h : vecB x y = true) : vecB (-y) x = true := by
  obtain ⟨⟨_, _⟩, ⟨_, _⟩⟩ := szs h
  exact vec_mk ⟨by omega, by omega⟩ ⟨by omega, by omega⟩
theorem det_bd2 {x1 y1 x2 y2 : Int} (h1 : vecB x1 y1 = true) (h2 : vecB x2 y2 = true) : -2000000 ≤ detZ x1 y1 x2 y2 ∧ detZ x1 y1 x2 y2 ≤ 2000000 := by
  obtain ⟨a1, a2⟩ := szs h1
  obtain ⟨a3, a4⟩ := szs h2
  have m1 := mul_bd a1 a4
  have m2 := mul_bd a2 a3
  unfold detZ
  omega
theorem dot_bd2 {x1 y1 x2 y2 : Int} (h1 : vecB x1 y1 = true) (h2 : vecB x2 y2 = true) : -2000000 ≤ dotZ x1 y1 x2 y2 ∧ dotZ x1 y1 x2 y2 ≤ 2000000 := by
  obtain ⟨a1, a2⟩ := szs h1
  obtain ⟨a3, a4⟩ := szs h2
  have m1 := mul_bd a1 a3
  have m2 := mul_bd a2 a4
  unfold dotZ
  omega
end Go.Proofs.YtohojjoediibhaaDoor
