/- The draws of chapters 4 and 5 of a fan with a divisor and a number or a vector. -/
import Derived.Test.YtohojjoediibhaaGreatDoorUd
import Derived.Test.YtohojjoediibhaaGreatDoorUg
import Derived.Test.YtohojjoediibhaaGreatDoorQf
namespace Go.Proofs.YtohojjoediibhaaGreatDoor
open Go.RowKit

theorem Reads.seek {w : World} {B : Nat} {a : Option Addr} {len cap : Nat} {p : Int} (h : Reads w B a len cap p) (q : Int) (hq : 0 ≤ q) : Reads (w.setCell ⟨B, 1, none⟩ (.int .i64 q)) B a len cap q := by
  obtain ⟨h1, h2, h3, h4, h5, h6⟩ := h
  refine ⟨h1.below ((Below.refl B w).setCell (p := ⟨B, 1, none⟩) (Nat.le_refl B) (.int .i64 q)), ?_, World.cell?_setCell_same _ _ _ h3, ?_, by simpa using h5, hq⟩
  · rw [World.cell?_setCell_other _ _ _ _ (by simp)]
    exact h2
  · rw [World.frozen?_setCell]; exact h4
def GivenN (w : World) (e : Ending) (w' : World) : Prop :=
  ∃ (v u : Value) (l : List V2) (d : List Int) (n : Int), e = .returned (.tuple #[v, u, .int .i64 n]) ∧ ReadsVecs w' v l ∧ ReadsInts w' u d ∧ 2 ≤ l.length ∧ l.length ≤ 20 ∧ d.length = l.length ∧ Below w.heap.size w w'
theorem VecsO.setTwo {w : World} {base g : Nat} {v : Value} {l : List V2} (h : VecsO w base v l) (hg : g < base) (x y : Value) : VecsO ((w.setCell ⟨g, 0, none⟩ x).setCell ⟨g, 1, none⟩ y) base v l := by
  obtain ⟨⟨a, c, rfl, hc, hm, hcell⟩, h2⟩ := h
  refine ⟨⟨a, c, rfl, hc, hm, fun h0 => ?_⟩, h2⟩
  obtain ⟨bb, off, rfl, hb, hcs⟩ := hcell h0
  have hbb := h2 bb off _ _ rfl
  refine ⟨bb, off, rfl, by simpa using hb, fun j hj => ⟨?_, ?_⟩⟩
  · rw [World.cell?_setCell_far _ _ _ _ (by show g ≠ bb; omega), World.cell?_setCell_far _ _ _ _ (by show g ≠ bb; omega)]
    exact (hcs j hj).1
  · rw [World.cell?_setCell_far _ _ _ _ (by show g ≠ bb; omega), World.cell?_setCell_far _ _ _ _ (by show g ≠ bb; omega)]
    exact (hcs j hj).2
def GivenM (w : World) (e : Ending) (w' : World) : Prop :=
  ∃ (v u : Value) (l : List V2) (d : List Int) (x y : Int), e = .returned (.tuple #[v, u, .agg #[.int .i64 (x), .int .i64 (y)]]) ∧ ReadsVecs w' v l ∧ ReadsInts w' u d ∧ 2 ≤ l.length ∧ l.length ≤ 20 ∧ d.length = l.length ∧ vecB x y = true ∧ vecB (x * 2) (y * 2) = true ∧ Below w.heap.size w w'
end Go.Proofs.YtohojjoediibhaaGreatDoor
