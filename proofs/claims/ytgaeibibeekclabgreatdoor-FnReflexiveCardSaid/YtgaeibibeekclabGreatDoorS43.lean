import Derived.Test.YtgaeibibeekclabGreatDoorProg
import Derived.Test.YtgaeibibeekclabGreatDoorS01
import Derived.WalkKit
import Derived.LaidEql
import Derived.Stop.Asserts
import Derived.RowKitTokens
import Derived.Handy
import Derived.WalkSpells
import Derived.WalkLawsBesides
import Derived.Deep.QuietTactic
import Derived.BigQuiet
import Derived.Lib.Hide
namespace Go.Proofs.YtgaeibibeekclabGreatDoor
open Go.RowKit
def detM (a b c d : Int) : Int := a * d - b * c
def detOk (d : Int) : Bool := d == 1 || d == -1
def sz4 (a b c d : Int) : Bool := szB a && (szB b && (szB c && szB d))
def matB (a b c d : Int) : Bool := sz4 a b c d && detOk (detM a b c d)
theorem det_in {d : Int} (h : detOk d = true) : ((d == 1) = true ∧ (d != 1) = false) ∨ ((d == 1) = false ∧ (d != 1) = true ∧ (d == -1) = true ∧ (d != -1) = false) := by
  by_cases h1 : d = 1
  · subst h1; exact .inl ⟨rfl, rfl⟩
  · have h2 : d = -1 := by simpa [detOk, h1] using h
    subst h2
    exact .inr ⟨rfl, rfl, rfl, rfl⟩
theorem det_out {d : Int} (h : detOk d = false) : (d == 1) = false ∧ (d != 1) = true ∧ (d == -1) = false ∧ (d != -1) = true := by
  have h' : ¬ d = 1 ∧ ¬ d = -1 := by simpa [detOk] using h
  simp [h'.1, h'.2, bne]
theorem sz4_in {a b c d : Int} (h : sz4 a b c d = true) : szB a = true ∧ szB b = true ∧ szB c = true ∧ szB d = true := by simpa [sz4] using h
theorem sz4_out {a b c d : Int} (h : sz4 a b c d = false) : szB a = false ∨ (szB a = true ∧ szB b = false) ∨ (szB a = true ∧ szB b = true ∧ szB c = false) ∨ (szB a = true ∧ szB b = true ∧ szB c = true ∧ szB d = false) := by
  cases ha : szB a <;> cases hb : szB b <;> cases hc : szB c <;> cases hd : szB d <;> simp [sz4, ha, hb, hc, hd] at h ⊢
theorem mat_in {a b c d : Int} (h : matB a b c d = true) : (szB a = true ∧ szB b = true ∧ szB c = true ∧ szB d = true) ∧ detOk (detM a b c d) = true := by
  have h' : sz4 a b c d = true ∧ detOk (detM a b c d) = true := by simpa [matB] using h
  exact ⟨sz4_in h'.1, h'.2⟩
theorem mat_out {a b c d : Int} (h : matB a b c d = false) : sz4 a b c d = false ∨ ((szB a = true ∧ szB b = true ∧ szB c = true ∧ szB d = true) ∧ detOk (detM a b c d) = false) := by
  cases hs : sz4 a b c d
  · exact .inl rfl
  · exact .inr ⟨sz4_in hs, by simpa [matB, hs] using h⟩
theorem det_bd {a b c d : Int} (ha : szB a = true) (hb : szB b = true) (hc : szB c = true) (hd : szB d = true) : (-1000000 ≤ a * d ∧ a * d ≤ 1000000) ∧ (-1000000 ≤ b * c ∧ b * c ≤ 1000000) :=
  ⟨mul_bd (szB_true ha) (szB_true hd), mul_bd (szB_true hb) (szB_true hc)⟩
/-- where a matrix moves a vector -/
def moveX (a b x y : Int) : Int := a * x + b * y
end Go.Proofs.YtgaeibibeekclabGreatDoor
