/- Small words of ours: what a call keeps (Below) as the walk uses it; the one package-level variable that errors.As reads. -/
import Derived.Test.YtncjidkgbfilkabDoorAs
import Derived.WalkSpells
import Derived.WalkLawsBesides
import Derived.Deep.QuietTactic
import Derived.BigQuiet
import Derived.Lib.Hide
namespace Go.Proofs.YtncjidkgbfilkabDoor
open Go.RowKit

theorem bcell {W w1 : World} (hb : Below W.heap.size W w1) : (∀ b o, b < W.heap.size → w1.cell? ⟨b, o, none⟩ = W.cell? ⟨b, o, none⟩) ∧ (∀ b o, b < W.heap.size → w1.frozen? ⟨b, o, none⟩ = W.frozen? ⟨b, o, none⟩) :=
  ⟨fun b o h => hb.cell (p := ⟨b, o, none⟩) h, fun b o h => hb.frozen (p := ⟨b, o, none⟩) h⟩

theorem bsize {W w1 : World} (hb : Below W.heap.size W w1) : ∀ n, n < W.heap.size → n < w1.heap.size := fun _ h => Nat.lt_of_lt_of_le h hb.size

theorem bcs {W w1 : World} (hb : Below W.heap.size W w1) : (∀ b o, b < W.heap.size → w1.cell? ⟨b, o, none⟩ = W.cell? ⟨b, o, none⟩) ∧ (∀ n, n < W.heap.size → n < w1.heap.size) := ⟨(bcell hb).1, bsize hb⟩

/-- The variable errors.errorType holds what the program's text laid. -/
def EtOk (w : World) : Prop := w.cell? ⟨0, 0, none⟩ = some (.iface 120 (.agg #[.pointer (some ⟨1, 61, none⟩)]))
theorem EtOk.pos {w : World} (h : EtOk w) : 0 < w.heap.size := by
  rcases Nat.eq_zero_or_pos w.heap.size with h0 | h1
  · unfold EtOk at h; simp [World.cell?, h0] at h
  · exact h1
theorem EtOk.below {w w' : World} (h : EtOk w) (hb : Below w.heap.size w w') : EtOk w' := by
  unfold EtOk at *; rw [hb.cell (p := ⟨0, 0, none⟩) (EtOk.pos h)]; exact h
theorem belowTo {a W w1 : World} (h : Below a.heap.size a W) (k : Below W.heap.size W w1) : Below a.heap.size a w1 := h.trans (k.mono h.size)

theorem none_nil (w : World) : Calls Tryd.prog 37 #[.nilIface] w fun e w' => e = .returned (.bool false) ∧ Below w.heap.size w w' := isNone_nil w
theorem none_hit (s : ByteArray) (w : World) (hg : EtOk w) : Calls Tryd.prog 37 #[.iface 86 (.agg #[.string s])] w fun e w' => e = .returned (.bool true) ∧ Below w.heap.size w w' := isNone_hit s w hg

/-! numbers -/
def szB (a : Int) : Bool := decide (-1000 ≤ a) && decide (a ≤ 1000)
def vecB (x y : Int) : Bool := szB x && szB y
theorem szB_true {a : Int} (h : szB a = true) : -1000 ≤ a ∧ a ≤ 1000 := by simpa [szB] using h
theorem szB_false {a : Int} (h : szB a = false) : a < -1000 ∨ 1000 < a := by
  unfold szB at h
  by_cases h1 : -1000 ≤ a <;> by_cases h2 : a ≤ 1000 <;> simp [h1, h2] at h <;> omega
theorem szB_mk {a : Int} (h1 : -1000 ≤ a) (h2 : a ≤ 1000) : szB a = true := by simp [szB, h1, h2]
theorem szB_lo {a : Int} (h1 : a < -1000) : szB a = false := by simp [szB]; omega
theorem szB_hi {a : Int} (h1 : 1000 < a) : szB a = false := by simp [szB]; omega
theorem vecB_true {x y : Int} (h : vecB x y = true) : szB x = true ∧ szB y = true := by simpa [vecB] using h
theorem vecB_false {x y : Int} (h : vecB x y = false) : szB x = false ∨ (szB x = true ∧ szB y = false) := by
  unfold vecB at h
  cases hx : szB x <;> simp [hx] at h ⊢
  exact h
theorem ret_bool {a b : Bool} (h : a = b) : Ending.returned (.bool a) = .returned (.bool b) := by rw [h]
end Go.Proofs.YtncjidkgbfilkabDoor
