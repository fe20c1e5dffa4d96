/- Fans: the first ray that can be blown down. -/
import Derived.Test.YtmencjdlfeojkaaDoorGw
namespace Go.Proofs.YtmencjdlfeojkaaDoor
open Go.RowKit Go.Shelf

attribute [local go_sem] Oper.semAt_some

def downB (l : List V2) (i : Nat) : Bool := decide (3 < l.length) && (numZ l i == -1)
def DownI (w w0 : World) (ns : List Node) (pre : List Nat) (W : World) : Prop :=
  (Boxed W (w.heap.size + 1) 91 (.pointer none) ∧ ∀ i ∈ pre, downB (rays ns) i = false) ∧ Below (w.heap.size + 1) w0 W
def DownX (w w0 : World) (ns : List Node) (c : Code) (pre : List Nat) (W : World) : Prop :=
  ((c = .ret ∧ ∃ p x, pre = p ++ [x] ∧ (∀ i ∈ p, downB (rays ns) i = false) ∧ downB (rays ns) x = true) ∧ ∃ x p, pre = p ++ [x] ∧ Boxed W (w.heap.size + 1) 91 (.pointer (some ⟨(cyc ns x).1, 0, none⟩))) ∧ Below (w.heap.size + 1) w0 W
theorem downI_own (w w0 : World) (ns : List Node) {k : Nat} (h0 : w.heap.size + 1 ≤ w0.heap.size) (h : w.heap.size + 1 ≤ k) : OwnFrom k (DownI w w0 ns) :=
  OwnFrom.and (OwnFrom.and (Own.from (ownErr _ _ _) _) (ownFrom_pure k (fun pre => ∀ i ∈ pre, downB (rays ns) i = false))) (ownFrom_below h0 h)
theorem downX_own (w w0 : World) (ns : List Node) (c : Code) {k : Nat} (h0 : w.heap.size + 1 ≤ w0.heap.size) (h : w.heap.size + 1 ≤ k) : OwnFrom k (DownX w w0 ns c) := by
  refine OwnFrom.and (OwnFrom.and (ownFrom_pure k (fun pre => c = .ret ∧ ∃ p x, pre = p ++ [x] ∧ (∀ i ∈ p, downB (rays ns) i = false) ∧ downB (rays ns) x = true)) ?_) (ownFrom_below h0 h)
  rintro s X Y row ⟨x, p, rfl, hb⟩ hg hr
  exact ⟨x, p, rfl, ownErr _ _ _ (p ++ [x]) X Y row hb hg (fun r e => (hr r e).2)⟩
/-- the first link whose ray can be blown down, or none -/
def DownEnd (ns : List Node) (e : Ending) : Prop :=
  (∃ k, k < ns.length ∧ e = .returned (.pointer (some ⟨(cyc ns k).1, 0, none⟩)) ∧ downB (rays ns) k = true ∧ ∀ i, i < k → downB (rays ns) i = false) ∨ (e = .returned (.pointer none) ∧ ∀ i, i < ns.length → downB (rays ns) i = false)
end Go.Proofs.YtmencjdlfeojkaaDoor
