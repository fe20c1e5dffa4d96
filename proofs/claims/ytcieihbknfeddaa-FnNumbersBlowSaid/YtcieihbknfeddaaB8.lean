import Derived.Test.YtcieihbknfeddaaL4
import Derived.Test.YtcieihbknfeddaaB7
import Derived.Test.YtcieihbknfeddaaB5
import Derived.Maps.AppendAt
import Derived.Test.YtcieihbknfeddaaB2
import Derived.Test.YtcieihbknfeddaaWr
/- Fans: linked round from a list. -/
namespace Go.Proofs.Ytcieihbknfeddaa
open Go.RowKit

end Go.Proofs.Ytcieihbknfeddaa

/- Fans: the rays. -/
namespace Go.Proofs.Ytcieihbknfeddaa
open Go.RowKit Go.Shelf

attribute [local go_sem] Oper.semAt_some

/-- a box B holds a list of vectors of the call's own -/
def VecsI (w : World) (B : Nat) (f : List Nat → List V2) (pre : List Nat) (W : World) : Prop :=
  (∃ v, Boxed W B 40 v ∧ W.ownsRow w.heap.size 51 2 v (f pre).length (intsV (flat (f pre))) ∧ True) ∧ Below w.heap.size w W
theorem vecsI_own (w : World) (B : Nat) (f : List Nat → List V2) {k : Nat} (h : w.heap.size ≤ k) : OwnFrom k (VecsI w B f) :=
  OwnFrom.and (Own.from (holdsRow_own _ _ _ _ _ (fun pre => (f pre).length) (fun pre => intsV (flat (f pre))) (fun _ _ => True)) _) (ownFrom_below (Nat.le_refl _) h)
theorem Vecs.putObj {W : World} {base : Nat} {v : Value} {l : List V2} (h : Vecs W base v l) {D : Nat} {o : Obj} (o' : Obj) (hl : W.heap[D]? = some o) (ho : o.isCells = false) : Vecs (W.putObj D o') base v l := ownsRow_putObj h o' hl ho
def raysAt (ns : List Node) (pre : List Nat) : List V2 := pre.map fun i => (cyc ns i).2
theorem raysAt_snoc (ns : List Node) (pre : List Nat) (x : Nat) : raysAt ns (pre ++ [x]) = raysAt ns pre ++ [((cyc ns x).2.1, (cyc ns x).2.2)] := by simp [raysAt]
theorem raysAt_all (ns : List Node) : raysAt ns (List.range ns.length) = rays ns := by
  have := congrArg (List.map (·.2)) (list_cyc ns)
  rw [List.map_map] at this
  exact this
end Go.Proofs.Ytcieihbknfeddaa

/- Fans: checked. -/
namespace Go.Proofs.Ytcieihbknfeddaa
open Go.RowKit Go.Shelf

attribute [local go_sem] Oper.semAt_some

theorem con_rays {ns : List Node} (h : 0 < ns.length) (x : Nat) : conB (rays ns) x = coneB (cyc ns x).2.1 (cyc ns x).2.2 (cyc ns (x + 1)).2.1 (cyc ns (x + 1)).2.2 := by
  unfold conB
  rw [rays_cyc h, rays_cyc h]
theorem bk_rays {ns : List Node} (h : 0 < ns.length) (x : Nat) : bkB (rays ns) x = aheadB (cyc ns (x + 1)).2.1 (cyc ns (x + 1)).2.2 (cyc ns x).2.1 (cyc ns x).2.2 := by
  unfold bkB aheadV
  rw [rays_cyc h, rays_cyc h]
theorem fan_is {l : List V2} (hr : rng l = true) (h : ∀ i ∈ List.range l.length, conB l i = true) : fanB l = oneBack l := by
  have : allC l = true := List.all_eq_true.2 h
  unfold fanB
  rw [hr, this]
  simp
theorem fan_not {l : List V2} {i : Nat} (hi : i ∈ List.range l.length) (h : conB l i = false) : fanB l = false := by
  have : allC l = false := by
    unfold allC
    rw [List.all_eq_false]
    exact ⟨i, hi, by rw [h]; decide⟩
  unfold fanB
  rw [this]
  simp
theorem ownErr (B : Nat) (t : TypeId) (v : Value) : Own (fun (_ : List Nat) W => Boxed W B t v) := boxed_own B t (fun _ => v)
theorem boxed_putObj {W : World} {B : Nat} {t : TypeId} {v : Value} (h : Boxed W B t v) {D : Nat} {o : Obj} (o' : Obj) (hl : W.heap[D]? = some o) (ho : o.isCells = false) : Boxed (W.putObj D o') B t v :=
  h.kept (grownBy_putObj' W D o') (fun e => by cases e; rw [show W.heap[B]? = _ from h] at hl; cases hl; cases ho)
theorem allC_vec {l : List V2} (h : ∀ i ∈ List.range l.length, conB l i = true) (h0 : 0 < l.length) : allVec l := fun i => (con_vec (allC_at (List.all_eq_true.2 h) h0 i)).1

end Go.Proofs.Ytcieihbknfeddaa

/- Fans: smooth ones. -/
namespace Go.Proofs.Ytcieihbknfeddaa
open Go.RowKit Go.Shelf

attribute [local go_sem] Oper.semAt_some

def SmoothI (w : World) (ns : List Node) (pre : List Nat) (W : World) : Prop :=
  (Boxed W w.heap.size 4 (.bool false) ∧ ∀ i ∈ pre, smB (rays ns) i = true) ∧ Below w.heap.size w W
def SmoothX (w : World) (ns : List Node) (c : Code) (pre : List Nat) (W : World) : Prop :=
  ((c = .ret ∧ ∃ i ∈ pre, smB (rays ns) i = false) ∧ Boxed W w.heap.size 4 (.bool false)) ∧ Below w.heap.size w W
theorem smoothI_own (w : World) (ns : List Node) {k : Nat} (h : w.heap.size ≤ k) : OwnFrom k (SmoothI w ns) :=
  OwnFrom.and (OwnFrom.and (Own.from (ownErr _ _ _) _) (ownFrom_pure k (fun pre => ∀ i ∈ pre, smB (rays ns) i = true))) (ownFrom_below (Nat.le_refl _) h)
theorem smoothX_own (w : World) (ns : List Node) (c : Code) {k : Nat} (h : w.heap.size ≤ k) : OwnFrom k (SmoothX w ns c) :=
  OwnFrom.and (OwnFrom.and (ownFrom_pure k (fun pre => c = .ret ∧ ∃ i ∈ pre, smB (rays ns) i = false)) (Own.from (ownErr _ _ _) _)) (ownFrom_below (Nat.le_refl _) h)
theorem allS_not {l : List V2} {i : Nat} (hi : i ∈ List.range l.length) (h : smB l i = false) : allS l = false := by
  unfold allS
  rw [List.all_eq_false]
  exact ⟨i, hi, by rw [h]; decide⟩
theorem sm_rays {ns : List Node} (h : 0 < ns.length) (x : Nat) : smB (rays ns) x = (detZ (cyc ns x).2.1 (cyc ns x).2.2 (cyc ns (x + 1)).2.1 (cyc ns (x + 1)).2.2 == 1) := by
  unfold smB detV
  rw [rays_cyc h, rays_cyc h]
end Go.Proofs.Ytcieihbknfeddaa

/- Fans: of a list. -/
namespace Go.Proofs.Ytcieihbknfeddaa
open Go.RowKit

end Go.Proofs.Ytcieihbknfeddaa
