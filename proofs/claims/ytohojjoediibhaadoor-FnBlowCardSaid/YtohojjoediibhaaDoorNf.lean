/- Surfaces of a kind: smooth, with two numbers 0. -/
import Derived.Test.YtohojjoediibhaaDoorNd
import Derived.Test.YtohojjoediibhaaDoorEw
import Derived.Test.YtohojjoediibhaaDoorKd
namespace Go.Proofs.YtohojjoediibhaaDoor
open Go.RowKit

theorem kin_smooth {k : Int} (h : kinB k = true) : smoothB (kinL k) = true := by
  have h2 : 0 ≤ k ∧ k ≤ 100 := by simpa [kinB] using h
  obtain ⟨n, rfl⟩ := Int.eq_ofNat_of_zero_le h2.1
  have : ∀ n : Fin 101, smoothB (kinL ((n : Nat) : Int)) = true := by decide +kernel
  exact this ⟨n, by omega⟩
theorem kin_nums (k : Int) : numsZ (kinL k) = [0, -k, 0, k] := by
  simp [numsZ, kinL, numZ, detV, detZ, cyc, List.range_succ]
theorem kin_num (k : Int) : numZ (kinL k) 0 = 0 ∧ numZ (kinL k) 1 = -k := by
  simp [kinL, numZ, detV, detZ, cyc]
theorem kin_four {k : Int} (h : kinB k = true) : kind4 (kinL k) = k := by
  have h2 : 0 ≤ k ∧ k ≤ 100 := by simpa [kinB] using h
  obtain ⟨n0, n1⟩ := kin_num k
  unfold kind4 kindM
  rw [n0, n1, if_neg (by simp [kinL]), if_pos (by simp [kinL])]
  split <;> split <;> omega
theorem idx_mk {l : List V2} {i : Nat} (h : i < l.length) : idxB l (i : Int) = true := by
  unfold idxB
  simp
  exact h
theorem downB_blow {l : List V2} {i : Nat} (hS : Smooth l) (h : i < l.length) (h3 : 3 ≤ l.length) : downB (blowL l i (blowP l i)) (i + 1) = true := by
  unfold downB
  rw [num_blow hS h h3 (by omega), if_neg (by omega), if_pos rfl, blowL_len h, decide_eq_true (by omega)]
  rfl
theorem Ints.four (w : World) (x y z u : Int) : Ints (w.alloc (.cells #[.int .i64 x, .int .i64 y, .int .i64 z, .int .i64 u] 3)) w.heap.size (.slice (some ⟨w.heap.size, 0, none⟩) 4 4) [x, y, z, u] :=
  ⟨rfl, .inr ⟨w.heap.size, 4, #[.int .i64 x, .int .i64 y, .int .i64 z, .int .i64 u], rfl, Nat.le_refl _, heap_alloc_new w _, Nat.le_refl _, by decide, rfl, rfl⟩⟩
end Go.Proofs.YtohojjoediibhaaDoor
