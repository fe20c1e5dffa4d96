import Derived.Test.YtkcnpbgbgdgkpaaDoorB9
import Derived.Test.YtkcnpbgbgdgkpaaDoorBa
import Derived.Test.YtkcnpbgbgdgkpaaDoorB6
import Derived.Test.YtkcnpbgbgdgkpaaDoorB3
/- Fans: blown up at a cone: the program. -/
namespace Go.Proofs.YtkcnpbgbgdgkpaaDoor
open Go.RowKit

/-- the sum of a ray and the next one -/
def blowP (l : List V2) (i : Nat) : V2 := ((cyc l i).1 + (cyc l (i + 1)).1, (cyc l i).2 + (cyc l (i + 1)).2)
def blowL {α : Type} (l : List α) (i : Nat) (p : α) : List α := l.take (i + 1) ++ [p] ++ l.drop (i + 1)
theorem blowL_len {α : Type} {l : List α} {i : Nat} {p : α} (h : i < l.length) : (blowL l i p).length = l.length + 1 := by
  simp [blowL]
  omega
theorem rays_blow (ns : List Node) (i q : Nat) (p : V2) : rays (blowL ns i (q, p)) = blowL (rays ns) i p := by simp [rays, blowL, List.map_take, List.map_drop]
theorem rot_blow {ns : List Node} {i : Nat} {p : Node} : rot (ns.length - (i + 1)) (rot (i + 1) ns ++ [p]) = blowL ns i p := by
  unfold rot blowL
  rw [List.append_assoc, ← List.length_drop, List.drop_left, List.take_left]
theorem blow_zero {ns : List Node} {i : Nat} {p : Node} (h : i < ns.length) : cyc (blowL ns i p) 0 = cyc ns 0 := by
  rw [cyc_lt (by rw [blowL_len h]; omega), cyc_lt (by omega)]
  unfold blowL
  rw [List.append_assoc, List.getElem?_append_left (by simp; omega), List.getElem?_take_of_lt (by omega)]
theorem mem_blow {ns : List Node} {i : Nat} {p q : Node} (h : p ∈ blowL ns i q) : p ∈ ns ∨ p = q := by
  unfold blowL at h
  rcases List.mem_append.1 h with h | h
  · rcases List.mem_append.1 h with h | h
    · exact .inl (List.mem_of_mem_take h)
    · exact .inr (List.mem_singleton.1 h)
  · exact .inl (List.mem_of_mem_drop h)
theorem mem_rot {ns : List Node} {k : Nat} {p : Node} (h : p ∈ rot k ns) : p ∈ ns := by
  unfold rot at h
  rcases List.mem_append.1 h with h | h
  · exact List.mem_of_mem_drop h
  · exact List.mem_of_mem_take h
/-- what 'blow' leaves -/
def BlowEnd (base g : Nat) (ns : List Node) (i : Nat) (w : World) (e : Ending) (w' : World) : Prop :=
  CheckEnd (fanB (blowL (rays ns) i (blowP (rays ns) i))) e ∧ (∃ q, FanAt w' base g (blowL ns i (q, blowP (rays ns) i))) ∧ Below base w w'
def blowB (l : List V2) (i : Int) : Bool := idxB l i && fanB (blowL l i.toNat (blowP l i.toNat))
end Go.Proofs.YtkcnpbgbgdgkpaaDoor

/- Fans: blown up at a cone: the model's side. -/
namespace Go.Proofs.YtkcnpbgbgdgkpaaDoor
open Go.RowKit

theorem two_cells {W : World} {b : Nat} {x y : Value} (h0 : W.cell? ⟨b, 0, none⟩ = some x) (h1 : W.cell? ⟨b, 1, none⟩ = some y) : ∀ j u, [x, y][j]? = some u → W.cell? ((⟨b, 0, none⟩ : Addr).add j) = some u := by
  intro j u hj
  match j, hj with
  | 0, hj => simp at hj; subst hj; simpa [Addr.add] using h0
  | 1, hj => simp at hj; subst hj; simpa [Addr.add] using h1
theorem two_one (x y : Int) : ∀ u ∈ [Value.int .i64 x, Value.int .i64 y], u.oneCell' = true := by
  intro u hu
  simp at hu
  rcases hu with rfl | rfl <;> rfl
theorem cell_same {W W' : World} {b : Nat} (h : W'.heap[b]? = W.heap[b]?) (o : Nat) : W'.cell? ⟨b, o, none⟩ = W.cell? ⟨b, o, none⟩ := by
  unfold World.cell?
  simp only [h]
theorem idx_is' (l : List V2) (i : Int) : (decide (0 ≤ i) && decide (i ≤ (l.length : Int) - 1)) = idxB l i := by
  unfold idxB
  congr 1
  exact decide_eq_decide.2 (by omega)
end Go.Proofs.YtkcnpbgbgdgkpaaDoor

/- Least fans: the mathematics. -/
namespace Go.Proofs.YtkcnpbgbgdgkpaaDoor
open Go.RowKit

theorem cyc_app_lt {α : Type} [Inhabited α] {l : List α} {p : α} {i : Nat} (h : i < l.length) : cyc (l ++ [p]) i = cyc l i := by
  rw [cyc_lt h, cyc_lt (by simp; omega), List.getElem?_append_left h]
theorem cyc_app_last {α : Type} [Inhabited α] {l : List α} {p : α} : cyc (l ++ [p]) l.length = p := by
  rw [cyc_lt (by simp), List.getElem?_append_right (Nat.le_refl _)]
  simp
theorem smooth_rot {l : List V2} {k : Nat} (h : Smooth l) (hk : k ≤ l.length) : Smooth (rot k l) := by
  refine ⟨fun i => ?_, fun i => ?_⟩
  · rw [cyc_rot hk]
    exact h.1 _
  · rw [cyc_rot hk, cyc_rot hk]
    exact h.2 (k + i)
theorem smooth_of {l : List V2} (h0 : 0 < l.length) (h1 : ∀ i, i < l.length → vecB (cyc l i).1 (cyc l i).2 = true) (h2 : ∀ i, i < l.length → detV (cyc l i) (cyc l (i + 1)) = 1) : Smooth l := by
  refine ⟨fun i => ?_, fun i => ?_⟩
  · have := h1 _ (Nat.mod_lt i h0)
    rwa [cyc_mod] at this
  · have := h2 _ (Nat.mod_lt i h0)
    rwa [cyc_mod, show cyc l (i % l.length + 1) = cyc l (i + 1) from cyc_congr l (by rw [Nat.mod_add_mod])] at this
theorem smooth_last {l : List V2} {p : V2} (h : Smooth (l ++ [p])) (h0 : 0 < l.length) (hd : detV (cyc l (l.length - 1)) (cyc l 0) = 1) : Smooth l := by
  refine smooth_of h0 (fun i hi => ?_) (fun i hi => ?_)
  · have := h.1 i
    rwa [cyc_app_lt hi] at this
  · by_cases e : i + 1 = l.length
    · rw [cyc_next, if_pos e, show i = l.length - 1 by omega]
      exact hd
    · have := h.2 i
      rwa [cyc_app_lt hi, cyc_app_lt (by omega)] at this
theorem rot_lastV {l : List V2} {i : Nat} (h : i < l.length) : rot (i + 1) l = (l.drop (i + 1) ++ l.take i) ++ [cyc l i] := by
  unfold rot
  rw [List.take_add_one, cyc_get h, List.append_assoc]
  rfl
theorem rot_downV {l : List V2} {i : Nat} : rot (l.length - (i + 1)) (l.drop (i + 1) ++ l.take i) = downL l i := by
  unfold rot downL
  rw [← List.length_drop, List.drop_left, List.take_left]
theorem smooth_down {l : List V2} {i : Nat} (h : Smooth l) (hi : i < l.length) (hd : downB l i = true) : Smooth (downL l i) := by
  have hd' := hd
  unfold downB at hd'
  rw [Bool.and_eq_true] at hd'
  have h3 : 3 < l.length := of_decide_eq_true hd'.1
  have hn : numZ l i = -1 := by simpa using hd'.2
  have hr := smooth_rot (k := i + 1) h (by omega)
  rw [rot_lastV hi] at hr
  have hml : (l.drop (i + 1) ++ l.take i).length = l.length - 1 := by simp; omega
  have e1 : cyc (l.drop (i + 1) ++ l.take i) (l.length - 2) = cyc l (i + l.length - 1) := by
    have : cyc (rot (i + 1) l) (l.length - 2) = cyc l (i + 1 + (l.length - 2)) := cyc_rot (by omega) _
    rw [rot_lastV hi, cyc_app_lt (by omega)] at this
    rw [this, show i + 1 + (l.length - 2) = i + l.length - 1 by omega]
  have e2 : cyc (l.drop (i + 1) ++ l.take i) 0 = cyc l (i + 1) := by
    have : cyc (rot (i + 1) l) 0 = cyc l (i + 1 + 0) := cyc_rot (by omega) _
    rw [rot_lastV hi, cyc_app_lt (by omega)] at this
    exact this
  have hs := smooth_last hr (by omega) (by
    rw [hml, show l.length - 1 - 1 = l.length - 2 by omega, e1, e2]
    unfold numZ at hn
    omega)
  rw [← rot_downV]
  exact smooth_rot hs (by omega)
/-- the first index at which a ray can be blown down -/
def firstD (l : List V2) : Option Nat := (List.range l.length).find? (downB l)
theorem firstD_some {l : List V2} {k : Nat} (hk : k < l.length) (h1 : downB l k = true) (h2 : ∀ i, i < k → downB l i = false) : firstD l = some k := by
  unfold firstD
  have e : List.range l.length = List.range k ++ k :: (List.range l.length).drop (k + 1) := by
    have e1 : List.range k ++ [k] = (List.range l.length).take (k + 1) := by rw [List.take_range, Nat.min_eq_left (by omega), List.range_succ]
    rw [List.append_cons, e1, List.take_append_drop]
  rw [e, List.find?_append]
  have : (List.range k).find? (downB l) = none := by
    rw [List.find?_eq_none]
    intro x hx
    rw [h2 x (List.mem_range.1 hx)]
    decide
  rw [this, List.find?_cons_of_pos h1]
  rfl
theorem firstD_none {l : List V2} (h : ∀ i, i < l.length → downB l i = false) : firstD l = none := by
  unfold firstD
  rw [List.find?_eq_none]
  intro x hx
  rw [h x (List.mem_range.1 hx)]
  decide
def leastN : Nat → List V2 → List V2
  | 0, l => l
  | k + 1, l => match firstD l with
    | none => l
    | some i => leastN k (downL l i)
def leastL (l : List V2) : List V2 := leastN l.length l
theorem least_step {l : List V2} {k : Nat} (hk : k < l.length) (h1 : downB l k = true) (h2 : ∀ i, i < k → downB l i = false) : leastL l = leastL (downL l k) := by
  unfold leastL
  rw [downL_len hk]
  obtain ⟨n, hn⟩ : ∃ n, l.length = n + 1 := ⟨l.length - 1, by omega⟩
  rw [hn, Nat.add_sub_cancel]
  show (match firstD l with | none => l | some i => leastN n (downL l i)) = _
  rw [firstD_some hk h1 h2]
theorem least_end {l : List V2} (h : ∀ i, i < l.length → downB l i = false) : leastL l = l := by
  unfold leastL
  cases hn : l.length with
  | zero => rfl
  | succ n =>
    show (match firstD l with | none => l | some i => leastN n (downL l i)) = _
    rw [firstD_none h]
theorem leastN_len (k : Nat) : ∀ l : List V2, (leastN k l).length ≤ l.length := by
  induction k with
  | zero => intro l; exact Nat.le_refl _
  | succ k ih =>
    intro l
    show (match firstD l with | none => l | some i => leastN k (downL l i)).length ≤ _
    cases firstD l with
    | none => exact Nat.le_refl _
    | some i =>
      refine Nat.le_trans (ih _) ?_
      simp [downL]
      omega
theorem least_len (l : List V2) : (leastL l).length ≤ l.length := leastN_len _ _
end Go.Proofs.YtkcnpbgbgdgkpaaDoor

/- Fans: built from a list of cones: both sides. -/
namespace Go.Proofs.YtkcnpbgbgdgkpaaDoor
open Go.RowKit

def buildS : List Int → List V2 → Option (List V2)
  | [], l => some l
  | i :: r, l => if smoothB l && blowB l i then buildS r (blowL l i.toNat (blowP l i.toNat)) else none
def triL : List V2 := [(1, 0), (0, 1), (-1, -1)]
theorem tri_smooth : smoothB triL = true := by decide +kernel
def builtB (is : List Int) : Bool := (buildS is triL).isSome
def builtL (is : List Int) : List V2 := (buildS is triL).getD []
theorem build_step {is : List Int} {k : Nat} {l : List V2} (hk : k < is.length) : buildS (is.drop k) l = if smoothB l && blowB l (is[k]?.getD 0) then buildS (is.drop (k + 1)) (blowL l (is[k]?.getD 0).toNat (blowP l (is[k]?.getD 0).toNat)) else none := by
  rw [List.drop_eq_getElem_cons hk, List.getElem?_eq_getElem hk]
  rfl
theorem build_len (is : List Int) : ∀ l l', l.length ≤ 20 → buildS is l = some l' → l'.length ≤ 20 := by
  induction is with
  | nil => intro l l' h e; cases e; exact h
  | cons i r ih =>
    intro l l' h e
    unfold buildS at e
    split at e
    · next hc =>
      rw [Bool.and_eq_true] at hc
      have h2 := hc.2
      unfold blowB at h2
      rw [Bool.and_eq_true] at h2
      exact ih _ _ (fan_len h2.2).2 e
    · cases e
theorem built_len {is : List Int} (h : builtB is = true) : (builtL is).length ≤ 20 := by
  unfold builtB at h
  obtain ⟨l', hl⟩ := Option.isSome_iff_exists.1 h
  unfold builtL
  rw [hl]
  exact build_len is triL l' (by decide) hl
theorem smooth_snoc {l : List V2} {p : V2} (h : Smooth l) (h0 : 0 < l.length) (hp : vecB p.1 p.2 = true) (h1 : detV (cyc l (l.length - 1)) p = 1) (h2 : detV p (cyc l 0) = 1) : Smooth (l ++ [p]) := by
  refine smooth_of (by simp) (fun i hi => ?_) (fun i hi => ?_)
  · simp at hi
    by_cases e : i < l.length
    · rw [cyc_app_lt e]; exact h.1 i
    · rw [show i = l.length by omega, cyc_app_last]; exact hp
  · simp at hi
    by_cases e : i + 1 < l.length
    · rw [cyc_app_lt (by omega), cyc_app_lt e]; exact h.2 i
    · by_cases e2 : i + 1 = l.length
      · rw [cyc_app_lt (by omega), e2, cyc_app_last, show i = l.length - 1 by omega]; exact h1
      · obtain rfl : i = l.length := by omega
        rw [cyc_app_last]
        have : cyc (l ++ [p]) (l.length + 1) = cyc (l ++ [p]) 0 := by
          have := cyc_add (l ++ [p]) 0
          rwa [show 0 + (l ++ [p]).length = l.length + 1 by simp] at this
        rw [this, cyc_app_lt h0]
        exact h2
theorem rot_blowV {l : List V2} {i : Nat} {p : V2} : rot (l.length - (i + 1)) (rot (i + 1) l ++ [p]) = blowL l i p := by
  unfold rot blowL
  rw [List.append_assoc, ← List.length_drop, List.drop_left, List.take_left]
theorem blow_cyc {l : List V2} {i : Nat} {p : V2} (h : i < l.length) : cyc (blowL l i p) (i + 1) = p := by
  rw [cyc_lt (by rw [blowL_len h]; omega)]
  unfold blowL
  have e : (l.take (i + 1)).length = i + 1 := by simp; omega
  rw [List.append_assoc, List.getElem?_append_right (by omega), e, Nat.sub_self]
  rfl
theorem smooth_blow {l : List V2} {i : Nat} (h : Smooth l) (hi : i < l.length) (hf : fanB (blowL l i (blowP l i)) = true) : smoothB (blowL l i (blowP l i)) = true := by
  have hv := fan_vec hf (i + 1)
  rw [blow_cyc hi] at hv
  have hr := smooth_rot (k := i + 1) h (by omega)
  have hd := h.2 i
  have hlast : cyc (rot (i + 1) l) ((rot (i + 1) l).length - 1) = cyc l i := by
    rw [rot_len, cyc_rot (by omega), show i + 1 + (l.length - 1) = i + l.length by omega, cyc_add]
  have hfirst : cyc (rot (i + 1) l) 0 = cyc l (i + 1) := by rw [cyc_rot (by omega), Nat.add_zero]
  have hS : Smooth (blowL l i (blowP l i)) := by
    rw [← rot_blowV]
    refine smooth_rot (smooth_snoc hr (by rw [rot_len]; omega) hv ?_ ?_) (by simp [rot_len]; omega)
    · rw [hlast]
      unfold detV detZ blowP at *
      rw [Int.mul_add, Int.mul_add, Int.mul_comm (cyc l i).1 (cyc l i).2]
      omega
    · rw [hfirst]
      unfold detV detZ blowP at *
      rw [Int.add_mul, Int.add_mul, Int.mul_comm (cyc l (i + 1)).1 (cyc l (i + 1)).2]
      omega
  unfold smoothB
  rw [hf, Bool.true_and]
  exact List.all_eq_true.2 (fun j _ => by simpa [smB] using hS.2 j)
theorem Vecs.tri (w : World) : Vecs (w.alloc (.cells #[.int .i64 1, .int .i64 0, .int .i64 0, .int .i64 1, .int .i64 (-1), .int .i64 (-1)] 38)) w.heap.size (.slice (some ⟨w.heap.size, 0, none⟩) 3 3) triL :=
  ⟨rfl, .inr ⟨w.heap.size, 3, #[.int .i64 1, .int .i64 0, .int .i64 0, .int .i64 1, .int .i64 (-1), .int .i64 (-1)], rfl, Nat.le_refl _, heap_alloc_new w _, Nat.le_refl _, by decide, rfl, rfl⟩⟩
def BuildI (w : World) (is : List Int) (s4 s5 : Value) (wr : World) : Prop :=
  ∃ (L : List V2) (k : Nat), Vecs wr w.heap.size s4 L ∧ s5 = .int .i64 k ∧ k ≤ is.length ∧ L.length ≤ 20 ∧ buildS (is.drop k) L = buildS is triL ∧ Below w.heap.size w wr
def BuildG (w : World) (g : Nat) (is : List Int) (s : Value) (wr : World) : Prop :=
  ∃ (ns : List Node) (k : Nat), FanAt wr w.heap.size g ns ∧ s = .int .i64 k ∧ k ≤ is.length ∧ smoothB (rays ns) = true ∧ buildS (is.drop k) (rays ns) = buildS is triL ∧ Below w.heap.size w wr
end Go.Proofs.YtkcnpbgbgdgkpaaDoor
