import Derived.Test.YtcieihbknfeddaaB8
import Derived.Test.YtcieihbknfeddaaL4
import Derived.LaidEqlPtr
import Derived.Test.YtcieihbknfeddaaB6
import Derived.Test.YtcieihbknfeddaaB4
import Derived.Test.YtcieihbknfeddaaB3
/- Fans: made tidy. -/
namespace Go.Proofs.Ytcieihbknfeddaa
open Go.RowKit Go.Shelf

attribute [local go_sem] Oper.semAt_some

end Go.Proofs.Ytcieihbknfeddaa

/- Fans: the link with an index; a ray blown down. -/
namespace Go.Proofs.Ytcieihbknfeddaa
open Go.RowKit

/-! a ray taken out of a list -/
def downL {α : Type} (l : List α) (i : Nat) : List α := l.take i ++ l.drop (i + 1)
theorem downL_len {α : Type} {l : List α} {i : Nat} (h : i < l.length) : (downL l i).length = l.length - 1 := by
  simp [downL]
  omega
theorem rays_down (ns : List Node) (i : Nat) : rays (downL ns i) = downL (rays ns) i := by simp [rays, downL, List.map_take, List.map_drop]
theorem rot_last {ns : List Node} {i : Nat} (h : i < ns.length) : rot (i + 1) ns = (ns.drop (i + 1) ++ ns.take i) ++ [cyc ns i] := by
  unfold rot
  rw [List.take_add_one, cyc_get h, List.append_assoc]
  rfl
theorem rot_down {ns : List Node} {i : Nat} : rot (ns.length - (i + 1)) (ns.drop (i + 1) ++ ns.take i) = downL ns i := by
  unfold rot downL
  rw [← List.length_drop, List.drop_left, List.take_left]
theorem down_zero {ns : List Node} {i : Nat} (h : i < ns.length) (h2 : 2 ≤ ns.length) : cyc (downL ns i) 0 = if i = 0 then cyc ns 1 else cyc ns 0 := by
  rw [cyc_lt (by rw [downL_len h]; omega)]
  unfold downL
  split
  · next e =>
    subst e
    rw [cyc_lt (by omega)]
    simp
  · rw [cyc_lt (by omega), List.getElem?_append_left (by simp; omega), List.getElem?_take_of_lt (by omega)]
theorem mem_down {ns : List Node} {i : Nat} {p : Node} (h : p ∈ downL ns i) : p ∈ ns := by
  unfold downL at h
  rcases List.mem_append.1 h with h | h
  · exact List.mem_of_mem_take h
  · exact List.mem_of_mem_drop h
end Go.Proofs.Ytcieihbknfeddaa

/- Fans: where a vector is. -/
namespace Go.Proofs.Ytcieihbknfeddaa
open Go.RowKit Go.Shelf

attribute [local go_sem] Oper.semAt_some

/-- the first index at which p holds, among n -/
def firstI (p : Nat → Bool) (n : Nat) : Nat := ((List.range n).takeWhile (fun i => !p i)).length
theorem first_is {p : Nat → Bool} {n k : Nat} (hk : k < n) (hp : p k = true) (h : ∀ i, i < k → p i = false) : firstI p n = k := by
  unfold firstI
  have e : List.range n = List.range k ++ k :: (List.range n).drop (k + 1) := by
    have e1 : List.range k ++ [k] = (List.range n).take (k + 1) := by rw [List.take_range, Nat.min_eq_left (by omega), List.range_succ]
    rw [List.append_cons, e1, List.take_append_drop]
  rw [e, List.takeWhile_append_of_pos (fun i hi => by rw [h i (List.mem_range.1 hi)]; rfl), List.takeWhile_cons_of_neg (by rw [hp]; decide), List.append_nil, List.length_range]
theorem prefix_range {p : List Nat} {x n : Nat} (h : p ++ [x] <+: List.range n) : p = List.range x ∧ x < n := by
  have hl := h.length_le
  simp at hl
  have e := List.prefix_iff_eq_take.1 h
  rw [List.take_range, List.length_append, List.length_singleton, Nat.min_eq_left (by omega), List.range_succ] at e
  obtain ⟨e1, e2⟩ := List.append_inj e (by simp)
  obtain rfl : x = p.length := by simpa using e2
  exact ⟨e1, by omega⟩
def WhereI (w w0 : World) (l : List V2) (a : V2) (pre : List Nat) (W : World) : Prop :=
  (Boxed W (w.heap.size + 1) 3 (.int .i64 (pre.length : Nat)) ∧ ∀ i ∈ pre, inC l i a = false) ∧ Below (w.heap.size + 1) w0 W
def WhereX (w w0 : World) (l : List V2) (a : V2) (c : Code) (pre : List Nat) (W : World) : Prop :=
  ((c = .exit 0 ∧ ∃ p x, pre = p ++ [x] ∧ (∀ i ∈ p, inC l i a = false) ∧ inC l x a = true) ∧ Boxed W (w.heap.size + 1) 3 (.int .i64 ((pre.length - 1 : Nat) : Int))) ∧ Below (w.heap.size + 1) w0 W
theorem whereI_own (w w0 : World) (l : List V2) (a : V2) {k : Nat} (h0 : w.heap.size + 1 ≤ w0.heap.size) (h : w.heap.size + 1 ≤ k) : OwnFrom k (WhereI w w0 l a) :=
  OwnFrom.and (OwnFrom.and (Own.from (boxed_own _ _ (fun pre : List Nat => .int .i64 (pre.length : Nat))) _) (ownFrom_pure k (fun pre => ∀ i ∈ pre, inC l i a = false))) (ownFrom_below h0 h)
theorem whereX_own (w w0 : World) (l : List V2) (a : V2) (c : Code) {k : Nat} (h0 : w.heap.size + 1 ≤ w0.heap.size) (h : w.heap.size + 1 ≤ k) : OwnFrom k (WhereX w w0 l a c) :=
  OwnFrom.and (OwnFrom.and (ownFrom_pure k (fun pre => c = .exit 0 ∧ ∃ p x, pre = p ++ [x] ∧ (∀ i ∈ p, inC l i a = false) ∧ inC l x a = true)) (Own.from (boxed_own _ _ (fun pre : List Nat => .int .i64 ((pre.length - 1 : Nat) : Int))) _)) (ownFrom_below h0 h)
theorem in_rays {ns : List Node} (h : 0 < ns.length) (x : Nat) (a : V2) : inC (rays ns) x a = inB (cyc ns x).2.1 (cyc ns x).2.2 (cyc ns (x + 1)).2.1 (cyc ns (x + 1)).2.2 a.1 a.2 := by
  unfold inC
  rw [rays_cyc h, rays_cyc h]
end Go.Proofs.Ytcieihbknfeddaa

/- Fans: the numbers of the rays. -/
namespace Go.Proofs.Ytcieihbknfeddaa
open Go.RowKit Go.Shelf

attribute [local go_sem] Oper.semAt_some

/-- a box B holds a list of numbers of the call's own -/
def IntsI (w : World) (B : Nat) (f : List Nat → List Int) (pre : List Nat) (W : World) : Prop :=
  (∃ v, Boxed W B 23 v ∧ W.ownsRow w.heap.size 3 1 v (f pre).length (intsV (f pre)) ∧ True) ∧ Below w.heap.size w W
theorem intsI_own (w : World) (B : Nat) (f : List Nat → List Int) {k : Nat} (h : w.heap.size ≤ k) : OwnFrom k (IntsI w B f) :=
  OwnFrom.and (Own.from (holdsRow_own _ _ _ _ _ (fun pre => (f pre).length) (fun pre => intsV (f pre)) (fun _ _ => True)) _) (ownFrom_below (Nat.le_refl _) h)
def numsAt (l : List V2) (pre : List Nat) : List Int := pre.map (numZ l)
theorem numsAt_snoc (l : List V2) (pre : List Nat) (x : Nat) : numsAt l (pre ++ [x]) = numsAt l pre ++ [numZ l x] := by simp [numsAt]
theorem Ints.snoc {w : World} {base n : Nat} {v : Value} {l : List Int} {x : Int} (hn : n = l.length) (h : w.ownsRow base 3 1 v (n + 1) (intsV l ++ [.int .i64 x])) : Ints w base v (l ++ [x]) := by
  unfold Ints
  rw [List.length_append, ← hn]
  have : intsV (l ++ [x]) = intsV l ++ [.int .i64 x] := by simp [intsV]
  rw [this]
  exact h
end Go.Proofs.Ytcieihbknfeddaa

/- Fans: the first ray that can be blown down. -/
namespace Go.Proofs.Ytcieihbknfeddaa
open Go.RowKit Go.Shelf

attribute [local go_sem] Oper.semAt_some

def downB (l : List V2) (i : Nat) : Bool := decide (3 < l.length) && (numZ l i == -1)
/-- the first link whose ray can be blown down, or none -/
def DownEnd (ns : List Node) (e : Ending) : Prop :=
  (∃ k, k < ns.length ∧ e = .returned (.pointer (some ⟨(cyc ns k).1, 0, none⟩)) ∧ downB (rays ns) k = true ∧ ∀ i, i < k → downB (rays ns) i = false) ∨ (e = .returned (.pointer none) ∧ ∀ i, i < ns.length → downB (rays ns) i = false)
end Go.Proofs.Ytcieihbknfeddaa

/- Fans: the program's functions that read a fan. -/
namespace Go.Proofs.Ytcieihbknfeddaa
open Go.RowKit

/-- a list, or none -/
def gV {α : Type} (b : Bool) (l : List α) : List α := if b then l else []
theorem gV_len {α : Type} {b : Bool} {l : List α} {n : Nat} (h : b = true → l.length ≤ n) : (gV b l).length ≤ n := by
  cases b
  · exact Nat.zero_le _
  · exact h rfl
theorem fan_small {l : List V2} {ns : List Node} (h : fanB l = true) (hn : rays ns = l) : ns.length ≤ 1000 ∧ ns.length = l.length := by
  have := fan_len h
  rw [← hn, rays_len] at this
  exact ⟨by omega, by rw [← hn, rays_len]⟩
def idxB (l : List V2) (i : Int) : Bool := decide (0 ≤ i) && decide (i < (l.length : Int))
theorem idx_in {l : List V2} {i : Int} (h : idxB l i = true) : ∃ m : Nat, i = m ∧ m < l.length := by
  have h' : 0 ≤ i ∧ i < (l.length : Int) := by simpa [idxB] using h
  exact ⟨i.toNat, by omega, by omega⟩
theorem idx_out {l : List V2} {i : Int} (h : idxB l i = false) : i < 0 ∨ (l.length : Int) ≤ i := by
  simp [idxB] at h
  omega
end Go.Proofs.Ytcieihbknfeddaa
