/- What the row of a law over a slice of vectors and slices of whole numbers wants. -/
import Derived.Test.YtcieihbknfeddabDoorRowV
import Derived.Test.YtcieihbknfeddabDoorRi
namespace Go.Proofs.YtcieihbknfeddabDoor
open Go.ChangeShapes Go.WideShapes Go.ChangeAt Go.RowKit Go.Joins

theorem add_plain (b off i : Nat) : (⟨b, off, none⟩ : Addr).add i = ⟨b, off + i, none⟩ := by
  by_cases h : i = 0
  · subst h; simp [Addr.add]
  · simp [Addr.add, h]
theorem ints_of_row {W : World} {x : Addr} {len cap : Nat} {zs : List Int} (hl : len ≤ cap) (hm : cap ≤ maxLen) (hz : zs.length = cap)
    (hcell : ∀ i, i < zs.length → W.cell? (x.add i) = some (.int .i64 (zs.getD i 0))) : IntRow W (some x) len cap := by
  refine ⟨hl, hm, ?_⟩
  rcases Nat.eq_zero_or_pos len with h0 | h0
  · exact .inl h0
  · obtain ⟨b, off, spot⟩ := x
    have hc := hcell 0 (by omega)
    have hspot : spot = none := by simpa [Addr.add] using World.cell?_spot hc
    subst hspot
    refine .inr ⟨b, off, zs.take len, rfl, World.block_lt_of_cell? W _ hc, by simp; omega, fun i hi => ?_⟩
    rw [← add_plain b off i, hcell i (by omega), List.getD_eq_getElem?_getD]
    have : (zs.take len)[i]? = zs[i]? := by rw [List.getElem?_take]; simp [hi]
    rw [this]
section
variable {H : Type} {enc : TypeId × Value → H} {W : World}
theorem intRow_open {fuel : Nat} {a : Option Addr} {len cap : Nat} {x : DataW H × List MemPlace} (hf : DataW.trod enc Tryd.prog W 0 (fun _ => true) true fuel 23 [.slice a len cap] = some x) : IntRow W a len cap := by
  rcases open_ints Tryd.underlying23 Tryd.underlying3 (by kernel_rfl) hf with ⟨hcs, _⟩ | ⟨x, l, c, zs, hcs, _, hl, hm, hz, _, hcell, _⟩
  · simp at hcs
    obtain ⟨rfl, rfl, rfl⟩ := hcs
    exact ⟨by omega, by unfold maxLen; omega, .inl rfl⟩
  · simp at hcs
    obtain ⟨rfl, rfl, rfl⟩ := hcs
    exact ints_of_row hl hm (by simpa using hz) hcell
end
end Go.Proofs.YtcieihbknfeddabDoor
