/- Fans: smooth ones. -/
import Derived.Test.YtfgkpnpgemakdaaDoorGf
namespace Go.Proofs.YtfgkpnpgemakdaaDoor
open Go.RowKit Go.Shelf

attribute [local go_sem] Oper.semAt_some

def SmoothI (w : World) (ns : List Node) (pre : List Nat) (W : World) : Prop :=
  (Boxed W w.heap.size 4 (.bool false) ∧ ∀ i ∈ pre, smB (rays ns) i = true) ∧ Below w.heap.size w W
def SmoothX (w : World) (ns : List Node) (c : Code) (pre : List Nat) (W : World) : Prop :=
  ((c = .ret ∧ ∃ i ∈ pre, smB (rays ns) i = false) ∧ Boxed W w.heap.size 4 (.bool false)) ∧ Below w.heap.size w W
theorem smoothI_own (w : World) (ns : List Node) {k : Nat} (h : w.heap.size ≤ k) : OwnFrom k (SmoothI w ns) :=
  OwnFrom.and (OwnFrom.and (Own.from (ownErr _ _ _) _) (ownFrom_pure k (fun pre => ∀ i ∈ pre, smB (rays ns) i = true))) (ownFrom_below (Nat.le_refl _) h)
theorem smoothX_own (w : World) (ns : List Node) (c : Code) {k : Nat} (h : w.heap.size ≤ k) : OwnFrom k (SmoothX w ns c) :=
  OwnFrom.and (OwnFrom.and (ownFrom_pure k (fun pre => c = .ret ∧ ∃ i ∈ pre, smB (rays ns) i = false)) (Own.from (ownErr _ _ _) _)) (ownFrom_below (Nat.le_refl _) h)
theorem allS_not {l : List V2} {i : Nat} (hi : i ∈ List.range l.length) (h : smB l i = false) : allS l = false := by
  unfold allS
  rw [List.all_eq_false]
  exact ⟨i, hi, by rw [h]; decide⟩
theorem sm_rays {ns : List Node} (h : 0 < ns.length) (x : Nat) : smB (rays ns) x = (detZ (cyc ns x).2.1 (cyc ns x).2.2 (cyc ns (x + 1)).2.1 (cyc ns (x + 1)).2.2 == 1) := by
  unfold smB detV
  rw [rays_cyc h, rays_cyc h]
end Go.Proofs.YtfgkpnpgemakdaaDoor
