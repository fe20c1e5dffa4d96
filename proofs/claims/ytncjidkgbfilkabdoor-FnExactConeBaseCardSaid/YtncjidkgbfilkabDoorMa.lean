/- Plain mathematics on whole numbers for chapter 1: no walk. -/
import Derived.Test.YtncjidkgbfilkabDoorKit
namespace Go.Proofs.YtncjidkgbfilkabDoor
open Go.RowKit

/-- x where b holds, else 0 -/
def gate (b : Bool) (x : Int) : Int := if b then x else 0
theorem gate_true (x : Int) : gate true x = x := rfl
theorem gate_false (x : Int) : gate false x = 0 := rfl
theorem gate_bd {b : Bool} {x lo hi : Int} (h : b = true → lo ≤ x ∧ x ≤ hi) (h0 : lo ≤ 0) (h1 : 0 ≤ hi) : lo ≤ gate b x ∧ gate b x ≤ hi := by
  cases b
  · exact ⟨h0, h1⟩
  · exact h rfl

theorem mul_bd {a b : Int} (ha : -1000 ≤ a ∧ a ≤ 1000) (hb : -1000 ≤ b ∧ b ≤ 1000) : -1000000 ≤ a * b ∧ a * b ≤ 1000000 := by
  have h : (a * b).natAbs ≤ 1000000 := by
    rw [Int.natAbs_mul]
    have := Nat.mul_le_mul (show a.natAbs ≤ 1000 by omega) (show b.natAbs ≤ 1000 by omega)
    omega
  omega
theorem szs {x y : Int} (h : vecB x y = true) : (-1000 ≤ x ∧ x ≤ 1000) ∧ (-1000 ≤ y ∧ y ≤ 1000) :=
  ⟨szB_true (vecB_true h).1, szB_true (vecB_true h).2⟩

def detZ (x1 y1 x2 y2 : Int) : Int := x1 * y2 - y1 * x2
def dotZ (x1 y1 x2 y2 : Int) : Int := x1 * x2 + y1 * y2
def addOk (x1 y1 x2 y2 : Int) : Bool := vecB x1 y1 && vecB x2 y2 && vecB (x1 + x2) (y1 + y2)
def timesOk (x y n : Int) : Bool := vecB x y && szB n && vecB (x * n) (y * n)
def twoOk (x1 y1 x2 y2 : Int) : Bool := vecB x1 y1 && vecB x2 y2
end Go.Proofs.YtncjidkgbfilkabDoor
