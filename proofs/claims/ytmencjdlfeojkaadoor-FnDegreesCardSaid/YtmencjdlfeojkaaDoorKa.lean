/- Fans: blown up at a cone: the program. -/
import Derived.Test.YtmencjdlfeojkaaDoorGy
namespace Go.Proofs.YtmencjdlfeojkaaDoor
open Go.RowKit

/-- the sum of a ray and the next one -/
def blowP (l : List V2) (i : Nat) : V2 := ((cyc l i).1 + (cyc l (i + 1)).1, (cyc l i).2 + (cyc l (i + 1)).2)
def blowL {α : Type} (l : List α) (i : Nat) (p : α) : List α := l.take (i + 1) ++ [p] ++ l.drop (i + 1)
theorem blowL_len {α : Type} {l : List α} {i : Nat} {p : α} (h : i < l.length) : (blowL l i p).length = l.length + 1 := by
  simp [blowL]
  omega
theorem rays_blow (ns : List Node) (i q : Nat) (p : V2) : rays (blowL ns i (q, p)) = blowL (rays ns) i p := by simp [rays, blowL, List.map_take, List.map_drop]
theorem rot_blow {ns : List Node} {i : Nat} {p : Node} : rot (ns.length - (i + 1)) (rot (i + 1) ns ++ [p]) = blowL ns i p := by
  unfold rot blowL
  rw [List.append_assoc, ← List.length_drop, List.drop_left, List.take_left]
theorem blow_zero {ns : List Node} {i : Nat} {p : Node} (h : i < ns.length) : cyc (blowL ns i p) 0 = cyc ns 0 := by
  rw [cyc_lt (by rw [blowL_len h]; omega), cyc_lt (by omega)]
  unfold blowL
  rw [List.append_assoc, List.getElem?_append_left (by simp; omega), List.getElem?_take_of_lt (by omega)]
theorem mem_blow {ns : List Node} {i : Nat} {p q : Node} (h : p ∈ blowL ns i q) : p ∈ ns ∨ p = q := by
  unfold blowL at h
  rcases List.mem_append.1 h with h | h
  · rcases List.mem_append.1 h with h | h
    · exact .inl (List.mem_of_mem_take h)
    · exact .inr (List.mem_singleton.1 h)
  · exact .inl (List.mem_of_mem_drop h)
theorem mem_rot {ns : List Node} {k : Nat} {p : Node} (h : p ∈ rot k ns) : p ∈ ns := by
  unfold rot at h
  rcases List.mem_append.1 h with h | h
  · exact List.mem_of_mem_drop h
  · exact List.mem_of_mem_take h
/-- what 'blow' leaves -/
def BlowEnd (base g : Nat) (ns : List Node) (i : Nat) (w : World) (e : Ending) (w' : World) : Prop :=
  CheckEnd (fanB (blowL (rays ns) i (blowP (rays ns) i))) e ∧ (∃ q, FanAt w' base g (blowL ns i (q, blowP (rays ns) i))) ∧ Below base w w'
def blowB (l : List V2) (i : Int) : Bool := idxB l i && fanB (blowL l i.toNat (blowP l i.toNat))
end Go.Proofs.YtmencjdlfeojkaaDoor
