/- Small words of ours: what a call keeps (Below) as the walk uses it; the one package-level variable that errors.As reads. -/
import Derived.Test.YtncjidkgbfilkabAs
import Derived.WalkSpells
import Derived.WalkLawsBesides
import Derived.Deep.QuietTactic
import Derived.BigQuiet
import Derived.Lib.Hide
namespace Go.Proofs.Ytncjidkgbfilkab
open Go.RowKit

theorem bcell {W w1 : World} (hb : Below W.heap.size W w1) : (∀ b o, b < W.heap.size → w1.cell? ⟨b, o, none⟩ = W.cell? ⟨b, o, none⟩) ∧ (∀ b o, b < W.heap.size → w1.frozen? ⟨b, o, none⟩ = W.frozen? ⟨b, o, none⟩) :=
  ⟨fun b o h => hb.cell (p := ⟨b, o, none⟩) h, fun b o h => hb.frozen (p := ⟨b, o, none⟩) h⟩

theorem bsize {W w1 : World} (hb : Below W.heap.size W w1) : ∀ n, n < W.heap.size → n < w1.heap.size := fun _ h => Nat.lt_of_lt_of_le h hb.size

theorem bcs {W w1 : World} (hb : Below W.heap.size W w1) : (∀ b o, b < W.heap.size → w1.cell? ⟨b, o, none⟩ = W.cell? ⟨b, o, none⟩) ∧ (∀ n, n < W.heap.size → n < w1.heap.size) := ⟨(bcell hb).1, bsize hb⟩

theorem belowTo {a W w1 : World} (h : Below a.heap.size a W) (k : Below W.heap.size W w1) : Below a.heap.size a w1 := h.trans (k.mono h.size)

/-! numbers -/
def szB (a : Int) : Bool := decide (-1000 ≤ a) && decide (a ≤ 1000)
def vecB (x y : Int) : Bool := szB x && szB y
theorem szB_true {a : Int} (h : szB a = true) : -1000 ≤ a ∧ a ≤ 1000 := by simpa [szB] using h
theorem szB_false {a : Int} (h : szB a = false) : a < -1000 ∨ 1000 < a := by
  unfold szB at h
  by_cases h1 : -1000 ≤ a <;> by_cases h2 : a ≤ 1000 <;> simp [h1, h2] at h <;> omega
theorem szB_mk {a : Int} (h1 : -1000 ≤ a) (h2 : a ≤ 1000) : szB a = true := by simp [szB, h1, h2]
theorem szB_lo {a : Int} (h1 : a < -1000) : szB a = false := by simp [szB]; omega
theorem szB_hi {a : Int} (h1 : 1000 < a) : szB a = false := by simp [szB]; omega
theorem vecB_true {x y : Int} (h : vecB x y = true) : szB x = true ∧ szB y = true := by simpa [vecB] using h
theorem vecB_false {x y : Int} (h : vecB x y = false) : szB x = false ∨ (szB x = true ∧ szB y = false) := by
  unfold vecB at h
  cases hx : szB x <;> simp [hx] at h ⊢
  exact h
theorem ret_bool {a b : Bool} (h : a = b) : Ending.returned (.bool a) = .returned (.bool b) := by rw [h]
end Go.Proofs.Ytncjidkgbfilkab
