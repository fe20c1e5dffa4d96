/- What the row of a law over a slice of whole numbers wants, in a seat without cards. -/
import Derived.Test.YtcieihbknfeddaaRowN
import Derived.Carry
import Derived.LaidHandle
import Derived.LaidLaws
import Derived.Stop.Joined
import Derived.Lib.SmallJoins
import Derived.Test.YtcieihbknfeddaaFi
namespace Go.Proofs.Ytcieihbknfeddaa
open Go.ChangeShapes Go.WideShapes Go.ChangeAt Go.RowKit Go.Joins

theorem laidOut : laidOutB Try.prog = true := by kernel_rfl
theorem add_plain (b off i : Nat) : (⟨b, off, none⟩ : Addr).add i = ⟨b, off + i, none⟩ := by
  by_cases h : i = 0
  · subst h; simp [Addr.add]
  · simp [Addr.add, h]
theorem ints_of_row {W : World} {x : Addr} {len cap : Nat} {zs : List Int} (hl : len ≤ cap) (hm : cap ≤ maxLen) (hz : zs.length = cap)
    (hcell : ∀ i, i < zs.length → W.cell? (x.add i) = some (.int .i64 (zs.getD i 0))) : IntRow W (some x) len cap := by
  refine ⟨hl, hm, ?_⟩
  rcases Nat.eq_zero_or_pos len with h0 | h0
  · exact .inl h0
  · obtain ⟨b, off, spot⟩ := x
    have hc := hcell 0 (by omega)
    have hspot : spot = none := by simpa [Addr.add] using World.cell?_spot hc
    subst hspot
    refine .inr ⟨b, off, zs.take len, rfl, World.block_lt_of_cell? W _ hc, by simp; omega, fun i hi => ?_⟩
    rw [← add_plain b off i, hcell i (by omega), List.getD_eq_getElem?_getD]
    have : (zs.take len)[i]? = zs[i]? := by rw [List.getElem?_take]; simp [hi]
    rw [this]
end Go.Proofs.Ytcieihbknfeddaa
