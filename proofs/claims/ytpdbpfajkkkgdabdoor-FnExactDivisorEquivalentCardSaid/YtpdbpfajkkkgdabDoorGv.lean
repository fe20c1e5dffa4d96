/- Fans: the link with an index; a ray blown down. -/
import Derived.Test.YtpdbpfajkkkgdabDoorGj
import Derived.Test.YtpdbpfajkkkgdabDoorGt
import Derived.LaidEqlPtr
namespace Go.Proofs.YtpdbpfajkkkgdabDoor
open Go.RowKit

def TakeEnd (ns : List Node) (w : World) (e : Ending) (w' : World) : Prop := (∃ v, e = .returned v) ∧ Ring w' ns ∧ Touched ns w w'
theorem Ring.mem {W : World} {ns : List Node} (h : Ring W ns) {p : Node} (hp : p ∈ ns) : ∃ a z, Link W p.1 p.2 a z := by
  obtain ⟨i, hi, rfl⟩ := List.mem_iff_getElem.1 hp
  have := h.link i
  rw [cyc_lt hi, List.getElem?_eq_getElem hi] at this
  exact ⟨_, _, this⟩
theorem infoLink : (Tryd.prog.info? 104).map (fun i => (i.zero, i.size, i.bytes)) = some (some (.agg #[.int .i64 0, .int .i64 0, .pointer none, .pointer none]), 4, 32) := by kernel_rfl
theorem eql_same (q : Nat) (w : World) : (binOp .eql 91 (.pointer (some ⟨q, 0, none⟩)) (.pointer (some ⟨q, 0, none⟩))).run Tryd.prog w = .ok (.bool true) w := by
  obtain ⟨j, hj, _⟩ := info_parts infoLink
  exact run_eql_ptr_same w _ Tryd.underlying91 hj
theorem eql_other {q q' : Nat} {w : World} {p p' : V2} {a z a' z' : Nat} (h : q ≠ q') (h1 : Link w q p a z) (h2 : Link w q' p' a' z') : (binOp .eql 91 (.pointer (some ⟨q, 0, none⟩)) (.pointer (some ⟨q', 0, none⟩))).run Tryd.prog w = .ok (.bool false) w := by
  obtain ⟨j, hj, _, hs, _⟩ := info_parts infoLink
  exact run_eql_ptr_other w Tryd.underlying91 hj (by rw [hs]; decide) (fun e => h (by cases e; rfl)) h1 h2
/-! a ray taken out of a list -/
def downL {α : Type} (l : List α) (i : Nat) : List α := l.take i ++ l.drop (i + 1)
theorem downL_len {α : Type} {l : List α} {i : Nat} (h : i < l.length) : (downL l i).length = l.length - 1 := by
  simp [downL]
  omega
theorem rays_down (ns : List Node) (i : Nat) : rays (downL ns i) = downL (rays ns) i := by simp [rays, downL, List.map_take, List.map_drop]
theorem rot_last {ns : List Node} {i : Nat} (h : i < ns.length) : rot (i + 1) ns = (ns.drop (i + 1) ++ ns.take i) ++ [cyc ns i] := by
  unfold rot
  rw [List.take_add_one, cyc_get h, List.append_assoc]
  rfl
theorem rot_down {ns : List Node} {i : Nat} : rot (ns.length - (i + 1)) (ns.drop (i + 1) ++ ns.take i) = downL ns i := by
  unfold rot downL
  rw [← List.length_drop, List.drop_left, List.take_left]
theorem down_zero {ns : List Node} {i : Nat} (h : i < ns.length) (h2 : 2 ≤ ns.length) : cyc (downL ns i) 0 = if i = 0 then cyc ns 1 else cyc ns 0 := by
  rw [cyc_lt (by rw [downL_len h]; omega)]
  unfold downL
  split
  · next e =>
    subst e
    rw [cyc_lt (by omega)]
    simp
  · rw [cyc_lt (by omega), List.getElem?_append_left (by simp; omega), List.getElem?_take_of_lt (by omega)]
theorem mem_down {ns : List Node} {i : Nat} {p : Node} (h : p ∈ downL ns i) : p ∈ ns := by
  unfold downL at h
  rcases List.mem_append.1 h with h | h
  · exact List.mem_of_mem_take h
  · exact List.mem_of_mem_drop h
end Go.Proofs.YtpdbpfajkkkgdabDoor
