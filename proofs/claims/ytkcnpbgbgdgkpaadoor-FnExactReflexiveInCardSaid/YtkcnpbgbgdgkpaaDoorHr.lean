/- A slice of vectors that came in. -/
import Derived.Test.YtkcnpbgbgdgkpaaDoorGb
namespace Go.Proofs.YtkcnpbgbgdgkpaaDoor
open Go.RowKit

/-- A slice of vectors that came in: empty, or a row that lies in the memory. -/
def VecRow (w : World) (a : Option Addr) (len cap : Nat) : Prop :=
  len ≤ cap ∧ cap ≤ maxLen ∧ (len = 0 ∨ ∃ (bb off : Nat) (l : List V2), a = some ⟨bb, off, none⟩ ∧ bb < w.heap.size ∧ l.length = len ∧ ∀ j, j < len → w.cell? ⟨bb, off + j * 2, none⟩ = some (.int .i64 (cyc l j).1) ∧ w.cell? ⟨bb, off + j * 2 + 1, none⟩ = some (.int .i64 (cyc l j).2))
theorem VecRow.reads {w : World} {a : Option Addr} {len cap : Nat} (h : VecRow w a len cap) (hl : len ≤ 1048576) : ∃ l, l.length = len ∧ ReadsVecs w (.slice a len cap) l := by
  obtain ⟨h1, _, h3⟩ := h
  rcases h3 with h3 | ⟨bb, off, l, rfl, h5, h6, h7⟩
  · subst h3
    exact ⟨[], rfl, a, cap, rfl, Nat.zero_le _, Nat.zero_le _, fun h0 => absurd h0 (by simp)⟩
  · exact ⟨l, h6, some ⟨bb, off, none⟩, cap, by rw [h6], by omega, by omega, fun _ => ⟨bb, off, rfl, h5, fun j hj => h7 j (by omega)⟩⟩
theorem VecRow.le_max {w : World} {a : Option Addr} {len cap : Nat} (h : VecRow w a len cap) : len ≤ 9223372036854775807 := by
  obtain ⟨h1, h2, _⟩ := h
  unfold maxLen at h2
  omega
end Go.Proofs.YtkcnpbgbgdgkpaaDoor
