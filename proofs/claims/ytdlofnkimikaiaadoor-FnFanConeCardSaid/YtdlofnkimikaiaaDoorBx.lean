/- Variables of several cells that a law keeps in memory. -/
import Derived.Test.YtdlofnkimikaiaaDoorGb
namespace Go.Proofs.YtdlofnkimikaiaaDoor
open Go.RowKit

def BoxAt (w : World) (M : Nat) (vs : List Value) : Prop := M < w.heap.size ∧ ∀ i v, vs[i]? = some v → w.cell? ⟨M, i, none⟩ = some v
theorem BoxAt.below {w w' : World} {M : Nat} {vs : List Value} (h : BoxAt w M vs) (hb : Below w.heap.size w w') : BoxAt w' M vs :=
  ⟨Nat.lt_of_lt_of_le h.1 hb.size, fun i v hv => (hb.cell (p := ⟨M, i, none⟩) h.1).trans (h.2 i v hv)⟩
theorem BoxAt.two {w : World} {M : Nat} {x y : Value} (h : BoxAt w M [x, y]) : w.cell? ⟨M, 0, none⟩ = some x ∧ w.cell? ⟨M, 1, none⟩ = some y := ⟨h.2 0 x rfl, h.2 1 y rfl⟩
theorem BoxAt.four {w : World} {M : Nat} {x y z u : Value} (h : BoxAt w M [x, y, z, u]) : w.cell? ⟨M, 0, none⟩ = some x ∧ w.cell? ⟨M, 1, none⟩ = some y ∧ w.cell? ⟨M, 2, none⟩ = some z ∧ w.cell? ⟨M, 3, none⟩ = some u := ⟨h.2 0 x rfl, h.2 1 y rfl, h.2 2 z rfl, h.2 3 u rfl⟩
theorem BoxAt.made2 (w : World) (x y : Value) (t : TypeId) : BoxAt (w.alloc (.cells #[x, y] t)) w.heap.size [x, y] := by
  refine ⟨by simp, fun i v hv => ?_⟩
  match i, hv with
  | 0, hv => simp at hv; subst hv; simp
  | 1, hv => simp at hv; subst hv; simp
theorem BoxAt.made4 (w : World) (x y z u : Value) (t : TypeId) : BoxAt (w.alloc (.cells #[x, y, z, u] t)) w.heap.size [x, y, z, u] := by
  refine ⟨by simp, fun i v hv => ?_⟩
  match i, hv with
  | 0, hv => simp at hv; subst hv; simp
  | 1, hv => simp at hv; subst hv; simp
  | 2, hv => simp at hv; subst hv; simp
  | 3, hv => simp at hv; subst hv; simp
/-- cells of a block from an offset on -/
def CellsAt (w : World) (M o : Nat) (vs : List Value) : Prop := M < w.heap.size ∧ ∀ i v, vs[i]? = some v → w.cell? ⟨M, o + i, none⟩ = some v
theorem CellsAt.below {w w' : World} {M o : Nat} {vs : List Value} (h : CellsAt w M o vs) (hb : Below w.heap.size w w') : CellsAt w' M o vs :=
  ⟨Nat.lt_of_lt_of_le h.1 hb.size, fun i v hv => (hb.cell (p := ⟨M, o + i, none⟩) h.1).trans (h.2 i v hv)⟩
end Go.Proofs.YtdlofnkimikaiaaDoor
