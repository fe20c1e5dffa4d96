/- What the row of a law over a slice of vectors wants. -/
import Derived.Test.YtcieihbknfeddaaDoorRow
import Derived.Test.YtcieihbknfeddaaDoorBl
import Derived.Deep.SlicePairs
namespace Go.Proofs.YtcieihbknfeddaaDoor
open Go.ChangeShapes Go.WideShapes Go.ChangeAt Go.RowKit Go.Joins

theorem laidOut : laidOutB Tryd.prog = true := by kernel_rfl
section
variable {H : Type} {enc : TypeId × Value → H} {W : World}
theorem vecRow_open {fuel : Nat} {a : Option Addr} {len cap : Nat} {x : DataW H × List MemPlace} (hf : DataW.trod enc Tryd.prog W 0 (fun _ => true) true fuel 36 [.slice a len cap] = some x) : VecRow W a len cap := by
  rcases Deep.open_slice_pairs Tryd.underlying36 Tryd.underlying52 (by kernel_rfl) rfl rfl (by kernel_rfl) (by kernel_rfl) hf with ⟨hcs, _⟩ | ⟨ad, l, c, m, n, V0, V1, D0, D1, P0, P1, hcs, _, hl, hm, hmm, _, hcell⟩
  · simp at hcs
    obtain ⟨rfl, rfl, rfl⟩ := hcs
    exact ⟨Nat.le_refl _, by unfold maxLen; omega, .inl rfl⟩
  · simp at hcs
    obtain ⟨rfl, rfl, rfl⟩ := hcs
    refine ⟨hl, hm, ?_⟩
    rcases Nat.eq_zero_or_pos len with h0 | h0
    · exact .inl h0
    · have hmc : m = cap := by simpa using hmm
      subst hmc
      obtain ⟨b, off, spot⟩ := ad
      have hspot : spot = none := by
        have := World.cell?_spot (hcell 0 (by omega)).1
        simpa [Addr.add] using this
      subst hspot
      have add : ∀ i, (⟨b, off, none⟩ : Addr).add i = ⟨b, off + i, none⟩ := fun i => by
        by_cases h : i = 0
        · subst h; simp [Addr.add]
        · simp [Addr.add, h]
      have each : ∀ i, i < len → ∃ p : Int × Int, W.cell? ⟨b, off + i * 2, none⟩ = some (.int .i64 p.1) ∧ W.cell? ⟨b, off + i * 2 + 1, none⟩ = some (.int .i64 p.2) := fun i hi => by
        obtain ⟨c0, c1, t0, t1⟩ := hcell i (by omega)
        obtain ⟨z0, e0, _, _⟩ := DataW.trod_int Tryd.underlying3 t0
        obtain ⟨z1, e1, _, _⟩ := DataW.trod_int Tryd.underlying3 t1
        simp at e0 e1
        rw [add, e0] at c0
        rw [add, e1] at c1
        exact ⟨(z0, z1), c0, by rw [Nat.add_assoc]; exact c1⟩
      obtain ⟨q, hq⟩ := Deep.choose_lt each
      refine .inr ⟨b, off, (List.range len).map q, rfl, World.block_lt_of_cell? W _ (hq 0 h0).1, by simp, fun j hj => ?_⟩
      rw [cyc_lt (by simpa using hj)]
      simpa [hj] using hq j hj
end
end Go.Proofs.YtcieihbknfeddaaDoor
