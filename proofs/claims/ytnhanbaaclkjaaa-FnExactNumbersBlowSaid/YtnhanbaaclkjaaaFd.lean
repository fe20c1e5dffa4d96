/- slices.Backward over a fraction: the iterator's contract. -/
import Derived.RangeFuncNested
import Derived.RangeFuncBound
import Derived.RangeFuncCalls
import Derived.RangeFuncLeaves
import Derived.Shelf.Abstract
import Derived.Shelf.RegionOpen
import Derived.WalkKit
import Derived.OwnWalkIn
import Derived.TacticsInMore
import Derived.LoopNIn
import Derived.LoopIn
import Derived.Test.YtnhanbaaclkjaaaFc
namespace Go.Proofs.Ytnhanbaaclkjaaa
open Go.RowKit Go.Shelf

attribute [local go_sem] Oper.semAt_some

/-- what a round is handed: a place and a number that a fraction may have -/
abbrev Elem := { x : Nat × Int // rngB x.2 = true }
/-- the k-th that comes: from the last place on -/
def elemAt (l : List Int) (h : ∀ b ∈ l, rngB b = true) (k : Nat) : Elem :=
  if hk : k < l.length then ⟨(l.length - 1 - k, l[l.length - 1 - k]'(by omega)), h _ (List.getElem_mem _)⟩ else ⟨(0, 2), by decide⟩
theorem elemAt_fst {l : List Int} {h : ∀ b ∈ l, rngB b = true} {k : Nat} (hk : k < l.length) : (elemAt l h k).1 = (l.length - 1 - k, l[l.length - 1 - k]?.getD 0) := by
  have h2 : l.length - 1 - k < l.length := by omega
  simp [elemAt, hk, h2]
def upTo {α : Type} (f : Nat → α) (k : Nat) : List α := (List.range k).map f
theorem upTo_succ {α : Type} (f : Nat → α) (k : Nat) : upTo f (k + 1) = upTo f k ++ [f k] := by simp [upTo, List.range_succ]
theorem upTo_len {α : Type} (f : Nat → α) (k : Nat) : (upTo f k).length = k := by simp [upTo]

/-- What a round keeps: all blocks below n₀, and the box of the slice that is ranged over. -/
def KeepBox (n₀ Bs : Nat) (A B : World) : Prop := Below n₀ A B ∧ (∀ v, A.cell? ⟨Bs, 0, none⟩ = some v → B.cell? ⟨Bs, 0, none⟩ = some v)
theorem KeepBox.refl (n₀ Bs : Nat) (A : World) : KeepBox n₀ Bs A A := ⟨Below.refl _ _, fun _ h => h⟩
theorem KeepBox.trans {n₀ Bs : Nat} {A B C : World} (h : KeepBox n₀ Bs A B) (k : KeepBox n₀ Bs B C) : KeepBox n₀ Bs A C := ⟨h.1.trans k.1, fun v e => k.2 v (h.2 v e)⟩
theorem KeepBox.put {n₀ Bs : Nat} {w : World} (hn : n₀ ≤ w.heap.size) (W : World) (l : Nat) (o o' : Obj) (hl : w.heap.size ≤ l) (h : W.heap[l]? = some o) (ho : o.isCells = false) (hw : o.isWalk = false) : KeepBox n₀ Bs W (W.putObj l o') :=
  ⟨belowK_b hn W l o o' hl h ho hw, fun _ hv => cell_kept hv (grownBy_putObj' W l o') (fun r e => by cases e; exact ⟨o, h, ho⟩)⟩
theorem KeepBox.set {n₀ Bs : Nat} {A B : World} (h : KeepBox n₀ Bs A B) {g : Nat} (v : Value) (hg : n₀ ≤ g) (hne : g ≠ Bs) : KeepBox n₀ Bs A (B.setCell ⟨g, 0, none⟩ v) :=
  ⟨h.1.setCell (p := ⟨g, 0, none⟩) hg v, fun u e => by rw [World.cell?_setCell_far _ _ _ _ hne]; exact h.2 u e⟩

end Go.Proofs.Ytnhanbaaclkjaaa
