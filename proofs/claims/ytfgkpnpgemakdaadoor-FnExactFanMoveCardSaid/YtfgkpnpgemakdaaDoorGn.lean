/- Fans: the numbers of the rays. -/
import Derived.Test.YtfgkpnpgemakdaaDoorGf
import Derived.Test.YtfgkpnpgemakdaaDoorB3
namespace Go.Proofs.YtfgkpnpgemakdaaDoor
open Go.RowKit Go.Shelf

attribute [local go_sem] Oper.semAt_some

/-- a box B holds a list of numbers of the call's own -/
def IntsI (w : World) (B : Nat) (f : List Nat → List Int) (pre : List Nat) (W : World) : Prop :=
  (∃ v, Boxed W B 79 v ∧ W.ownsRow w.heap.size 3 1 v (f pre).length (intsV (f pre)) ∧ True) ∧ Below w.heap.size w W
theorem intsI_own (w : World) (B : Nat) (f : List Nat → List Int) {k : Nat} (h : w.heap.size ≤ k) : OwnFrom k (IntsI w B f) :=
  OwnFrom.and (Own.from (holdsRow_own _ _ _ _ _ (fun pre => (f pre).length) (fun pre => intsV (f pre)) (fun _ _ => True)) _) (ownFrom_below (Nat.le_refl _) h)
def numsAt (l : List V2) (pre : List Nat) : List Int := pre.map (numZ l)
theorem numsAt_snoc (l : List V2) (pre : List Nat) (x : Nat) : numsAt l (pre ++ [x]) = numsAt l pre ++ [numZ l x] := by simp [numsAt]
theorem Ints.snoc {w : World} {base n : Nat} {v : Value} {l : List Int} {x : Int} (hn : n = l.length) (h : w.ownsRow base 3 1 v (n + 1) (intsV l ++ [.int .i64 x])) : Ints w base v (l ++ [x]) := by
  unfold Ints
  rw [List.length_append, ← hn]
  have : intsV (l ++ [x]) = intsV l ++ [.int .i64 x] := by simp [intsV]
  rw [this]
  exact h
end Go.Proofs.YtfgkpnpgemakdaaDoor
