/- Tables: the model's determinant, the table and the determinant that it gives. -/
import Derived.Test.YtohojjoediibhaaDoorEr
import Derived.Test.YtohojjoediibhaaDoorEb
import Derived.Deep.QuietTactic
import Derived.BigQuiet
namespace Go.Proofs.YtohojjoediibhaaDoor
open Go.RowKit

/-- a list of lists of one length, read cell by cell -/
theorem Rows2.grid {W : World} {lo hi m : Nat} {v : Value} {L : List (List Int)} (h : Rows2 W lo hi v L) (h0 : 0 < L.length) (hm : 0 < m) (hr : ∀ j, j < L.length → (L[j]?.getD []).length = m) :
    ∃ g off c, v = .slice (some ⟨g, off, none⟩) L.length c ∧ g < W.heap.size ∧ L.length ≤ maxLen ∧ ∀ j, j < L.length → ∃ gj oj cj, gj < W.heap.size ∧ m ≤ maxLen ∧ W.cell? ⟨g, off + j, none⟩ = some (.slice (some ⟨gj, oj, none⟩) m cj) ∧ ∀ k, k < m → W.cell? ⟨gj, oj + k, none⟩ = some (.int .i64 (((L[j]?.getD [])[k]?).getD 0)) := by
  have hs := h.1
  obtain ⟨g, c, e, hg, hmx, hc⟩ := h.at h0
  refine ⟨g, 0, c, e, by omega, hmx, fun j hj => ?_⟩
  obtain ⟨a, n, c', h1, h2, h3⟩ := hc j hj
  have hl := hr j hj
  rcases h2.2 with ⟨e2, e3⟩ | ⟨gj, cap, cur, e2, _, hg2, hcap, hmx2, _⟩
  · omega
  · rw [e2] at h1 h2 h3
    have hcell := Ints.cell h2
    rw [hl] at h1 hcap
    refine ⟨gj, 0, cap, by have := h3 gj rfl; omega, by omega, by rw [Nat.zero_add]; exact h1, fun k hk => ?_⟩
    rw [Nat.zero_add]
    exact hcell k (by rw [hl]; exact hk)
theorem tabLL_len (l : List V2) : (tabLL l).length = l.length - 2 := tabTo_len _ _
theorem tabLL_at {l : List V2} {r : Nat} (h : r < l.length - 2) : (tabLL l)[r]?.getD [] = tabRow l r (l.length - 2) := tabTo_at h
theorem tabRow_at {l : List V2} {i k m : Nat} (h : k < m) : ((tabRow l i m)[k]?).getD 0 = tabZ l i k := by simp [tabRow, h]
end Go.Proofs.YtohojjoediibhaaDoor
