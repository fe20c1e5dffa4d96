/- A slice of whole numbers that came in. -/
import Derived.Test.YtcieihbknfeddaaB3
namespace Go.Proofs.Ytcieihbknfeddaa
open Go.RowKit

/-- A slice of whole numbers that came in: empty, or a row that lies in the memory. -/
def IntRow (w : World) (a : Option Addr) (len cap : Nat) : Prop :=
  len ≤ cap ∧ cap ≤ maxLen ∧ (len = 0 ∨ ∃ (bb off : Nat) (l : List Int), a = some ⟨bb, off, none⟩ ∧ bb < w.heap.size ∧ l.length = len ∧ ∀ i, i < len → w.cell? ⟨bb, off + i, none⟩ = some (.int .i64 (l[i]?.getD 0)))
theorem IntRow.reads {w : World} {a : Option Addr} {len cap : Nat} (h : IntRow w a len cap) (hl : len ≤ 1048576) : ∃ l, l.length = len ∧ ReadsInts w (.slice a len cap) l := by
  obtain ⟨_, _, h3⟩ := h
  rcases h3 with h3 | ⟨bb, off, l, rfl, h5, h6, h7⟩
  · subst h3
    exact ⟨[], rfl, a, cap, rfl, Nat.zero_le _, fun h0 => absurd h0 (by simp)⟩
  · exact ⟨l, h6, some ⟨bb, off, none⟩, cap, by rw [h6], by omega, fun _ => ⟨bb, off, rfl, h5, fun j hj => h7 j (by omega)⟩⟩

end Go.Proofs.Ytcieihbknfeddaa
