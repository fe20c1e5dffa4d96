import Derived.Test.YtcieihbknfeddaaB9
import Derived.Test.YtcieihbknfeddaaB6
/- Fans: blown up at a cone: the program. -/
namespace Go.Proofs.Ytcieihbknfeddaa
open Go.RowKit

/-- the sum of a ray and the next one -/
def blowP (l : List V2) (i : Nat) : V2 := ((cyc l i).1 + (cyc l (i + 1)).1, (cyc l i).2 + (cyc l (i + 1)).2)
def blowL {α : Type} (l : List α) (i : Nat) (p : α) : List α := l.take (i + 1) ++ [p] ++ l.drop (i + 1)
theorem blowL_len {α : Type} {l : List α} {i : Nat} {p : α} (h : i < l.length) : (blowL l i p).length = l.length + 1 := by
  simp [blowL]
  omega
theorem rays_blow (ns : List Node) (i q : Nat) (p : V2) : rays (blowL ns i (q, p)) = blowL (rays ns) i p := by simp [rays, blowL, List.map_take, List.map_drop]
theorem rot_blow {ns : List Node} {i : Nat} {p : Node} : rot (ns.length - (i + 1)) (rot (i + 1) ns ++ [p]) = blowL ns i p := by
  unfold rot blowL
  rw [List.append_assoc, ← List.length_drop, List.drop_left, List.take_left]
theorem blow_zero {ns : List Node} {i : Nat} {p : Node} (h : i < ns.length) : cyc (blowL ns i p) 0 = cyc ns 0 := by
  rw [cyc_lt (by rw [blowL_len h]; omega), cyc_lt (by omega)]
  unfold blowL
  rw [List.append_assoc, List.getElem?_append_left (by simp; omega), List.getElem?_take_of_lt (by omega)]
theorem mem_blow {ns : List Node} {i : Nat} {p q : Node} (h : p ∈ blowL ns i q) : p ∈ ns ∨ p = q := by
  unfold blowL at h
  rcases List.mem_append.1 h with h | h
  · rcases List.mem_append.1 h with h | h
    · exact .inl (List.mem_of_mem_take h)
    · exact .inr (List.mem_singleton.1 h)
  · exact .inl (List.mem_of_mem_drop h)
theorem mem_rot {ns : List Node} {k : Nat} {p : Node} (h : p ∈ rot k ns) : p ∈ ns := by
  unfold rot at h
  rcases List.mem_append.1 h with h | h
  · exact List.mem_of_mem_drop h
  · exact List.mem_of_mem_take h
def blowB (l : List V2) (i : Int) : Bool := idxB l i && fanB (blowL l i.toNat (blowP l i.toNat))
end Go.Proofs.Ytcieihbknfeddaa

/- Least fans: the mathematics. -/
namespace Go.Proofs.Ytcieihbknfeddaa
open Go.RowKit

theorem cyc_app_lt {α : Type} [Inhabited α] {l : List α} {p : α} {i : Nat} (h : i < l.length) : cyc (l ++ [p]) i = cyc l i := by
  rw [cyc_lt h, cyc_lt (by simp; omega), List.getElem?_append_left h]
theorem cyc_app_last {α : Type} [Inhabited α] {l : List α} {p : α} : cyc (l ++ [p]) l.length = p := by
  rw [cyc_lt (by simp), List.getElem?_append_right (Nat.le_refl _)]
  simp
theorem smooth_rot {l : List V2} {k : Nat} (h : Smooth l) (hk : k ≤ l.length) : Smooth (rot k l) := by
  refine ⟨fun i => ?_, fun i => ?_⟩
  · rw [cyc_rot hk]
    exact h.1 _
  · rw [cyc_rot hk, cyc_rot hk]
    exact h.2 (k + i)
theorem smooth_of {l : List V2} (h0 : 0 < l.length) (h1 : ∀ i, i < l.length → vecB (cyc l i).1 (cyc l i).2 = true) (h2 : ∀ i, i < l.length → detV (cyc l i) (cyc l (i + 1)) = 1) : Smooth l := by
  refine ⟨fun i => ?_, fun i => ?_⟩
  · have := h1 _ (Nat.mod_lt i h0)
    rwa [cyc_mod] at this
  · have := h2 _ (Nat.mod_lt i h0)
    rwa [cyc_mod, show cyc l (i % l.length + 1) = cyc l (i + 1) from cyc_congr l (by rw [Nat.mod_add_mod])] at this
theorem smooth_last {l : List V2} {p : V2} (h : Smooth (l ++ [p])) (h0 : 0 < l.length) (hd : detV (cyc l (l.length - 1)) (cyc l 0) = 1) : Smooth l := by
  refine smooth_of h0 (fun i hi => ?_) (fun i hi => ?_)
  · have := h.1 i
    rwa [cyc_app_lt hi] at this
  · by_cases e : i + 1 = l.length
    · rw [cyc_next, if_pos e, show i = l.length - 1 by omega]
      exact hd
    · have := h.2 i
      rwa [cyc_app_lt hi, cyc_app_lt (by omega)] at this
theorem rot_lastV {l : List V2} {i : Nat} (h : i < l.length) : rot (i + 1) l = (l.drop (i + 1) ++ l.take i) ++ [cyc l i] := by
  unfold rot
  rw [List.take_add_one, cyc_get h, List.append_assoc]
  rfl
theorem rot_downV {l : List V2} {i : Nat} : rot (l.length - (i + 1)) (l.drop (i + 1) ++ l.take i) = downL l i := by
  unfold rot downL
  rw [← List.length_drop, List.drop_left, List.take_left]
theorem smooth_down {l : List V2} {i : Nat} (h : Smooth l) (hi : i < l.length) (hd : downB l i = true) : Smooth (downL l i) := by
  have hd' := hd
  unfold downB at hd'
  rw [Bool.and_eq_true] at hd'
  have h3 : 3 < l.length := of_decide_eq_true hd'.1
  have hn : numZ l i = -1 := by simpa using hd'.2
  have hr := smooth_rot (k := i + 1) h (by omega)
  rw [rot_lastV hi] at hr
  have hml : (l.drop (i + 1) ++ l.take i).length = l.length - 1 := by simp; omega
  have e1 : cyc (l.drop (i + 1) ++ l.take i) (l.length - 2) = cyc l (i + l.length - 1) := by
    have : cyc (rot (i + 1) l) (l.length - 2) = cyc l (i + 1 + (l.length - 2)) := cyc_rot (by omega) _
    rw [rot_lastV hi, cyc_app_lt (by omega)] at this
    rw [this, show i + 1 + (l.length - 2) = i + l.length - 1 by omega]
  have e2 : cyc (l.drop (i + 1) ++ l.take i) 0 = cyc l (i + 1) := by
    have : cyc (rot (i + 1) l) 0 = cyc l (i + 1 + 0) := cyc_rot (by omega) _
    rw [rot_lastV hi, cyc_app_lt (by omega)] at this
    exact this
  have hs := smooth_last hr (by omega) (by
    rw [hml, show l.length - 1 - 1 = l.length - 2 by omega, e1, e2]
    unfold numZ at hn
    omega)
  rw [← rot_downV]
  exact smooth_rot hs (by omega)
/-- the first index at which a ray can be blown down -/
def firstD (l : List V2) : Option Nat := (List.range l.length).find? (downB l)
theorem firstD_some {l : List V2} {k : Nat} (hk : k < l.length) (h1 : downB l k = true) (h2 : ∀ i, i < k → downB l i = false) : firstD l = some k := by
  unfold firstD
  have e : List.range l.length = List.range k ++ k :: (List.range l.length).drop (k + 1) := by
    have e1 : List.range k ++ [k] = (List.range l.length).take (k + 1) := by rw [List.take_range, Nat.min_eq_left (by omega), List.range_succ]
    rw [List.append_cons, e1, List.take_append_drop]
  rw [e, List.find?_append]
  have : (List.range k).find? (downB l) = none := by
    rw [List.find?_eq_none]
    intro x hx
    rw [h2 x (List.mem_range.1 hx)]
    decide
  rw [this, List.find?_cons_of_pos h1]
  rfl
theorem firstD_none {l : List V2} (h : ∀ i, i < l.length → downB l i = false) : firstD l = none := by
  unfold firstD
  rw [List.find?_eq_none]
  intro x hx
  rw [h x (List.mem_range.1 hx)]
  decide
def leastN : Nat → List V2 → List V2
  | 0, l => l
  | k + 1, l => match firstD l with
    | none => l
    | some i => leastN k (downL l i)
def leastL (l : List V2) : List V2 := leastN l.length l
theorem least_step {l : List V2} {k : Nat} (hk : k < l.length) (h1 : downB l k = true) (h2 : ∀ i, i < k → downB l i = false) : leastL l = leastL (downL l k) := by
  unfold leastL
  rw [downL_len hk]
  obtain ⟨n, hn⟩ : ∃ n, l.length = n + 1 := ⟨l.length - 1, by omega⟩
  rw [hn, Nat.add_sub_cancel]
  show (match firstD l with | none => l | some i => leastN n (downL l i)) = _
  rw [firstD_some hk h1 h2]
theorem least_end {l : List V2} (h : ∀ i, i < l.length → downB l i = false) : leastL l = l := by
  unfold leastL
  cases hn : l.length with
  | zero => rfl
  | succ n =>
    show (match firstD l with | none => l | some i => leastN n (downL l i)) = _
    rw [firstD_none h]
theorem leastN_len (k : Nat) : ∀ l : List V2, (leastN k l).length ≤ l.length := by
  induction k with
  | zero => intro l; exact Nat.le_refl _
  | succ k ih =>
    intro l
    show (match firstD l with | none => l | some i => leastN k (downL l i)).length ≤ _
    cases firstD l with
    | none => exact Nat.le_refl _
    | some i =>
      refine Nat.le_trans (ih _) ?_
      simp [downL]
      omega
theorem least_len (l : List V2) : (leastL l).length ≤ l.length := leastN_len _ _
end Go.Proofs.Ytcieihbknfeddaa
