import Derived.Test.YtgaeibibeekclabGreatDoorProg
import Derived.Test.YtgaeibibeekclabGreatDoorS01
import Derived.Test.YtgaeibibeekclabGreatDoorS03
import Derived.Test.YtgaeibibeekclabGreatDoorS06
import Derived.WalkKit
import Derived.LaidEql
import Derived.Stop.Asserts
import Derived.RowKitTokens
import Derived.Handy
import Derived.WalkSpells
import Derived.WalkLawsBesides
import Derived.Deep.QuietTactic
import Derived.BigQuiet
import Derived.Lib.Hide
import Derived.Deep.RegionHeld3
import Derived.Deep.DeepCutAuto
import Derived.RangeFuncBox
namespace Go.Proofs.YtgaeibibeekclabGreatDoor
open Go.RowKit
/-- the index behind, as the programs reckon it -/
theorem cyc_next {α : Type} [Inhabited α] {l : List α} {i : Nat} : cyc l (i + 1) = if i + 1 = l.length then cyc l 0 else cyc l (i + 1) := by
  split
  · next e => rw [e]; exact cyc_congr l (by simp)
  · rfl
theorem cyc_ahead {α : Type} [Inhabited α] {l : List α} {i : Nat} (h : i < l.length) : cyc l (i + l.length - 1) = if i = 0 then cyc l (l.length - 1) else cyc l (i - 1) := by
  split
  · next e => subst e; rw [Nat.zero_add]
  · refine cyc_congr l ?_
    rw [show i + l.length - 1 = (i - 1) + l.length by omega, Nat.add_mod_right]
theorem rot_map {α β : Type} (f : α → β) (k : Nat) (l : List α) : (rot k l).map f = rot k (l.map f) := by simp [rot, List.map_drop, List.map_take]
theorem list_cyc {α : Type} [Inhabited α] (l : List α) : (List.range l.length).map (cyc l) = l := by
  refine List.ext_getElem (by simp) (fun i h1 h2 => ?_)
  simp only [List.getElem_map, List.getElem_range]
  rw [cyc_lt (by simpa using h1), List.getElem?_eq_getElem (by simpa using h1)]
  rfl
def numZ (l : List V2) (i : Nat) : Int := -(detV (cyc l (i + l.length - 1)) (cyc l (i + 1)))
def numsZ (l : List V2) : List Int := (List.range l.length).map (numZ l)
theorem nums_len (l : List V2) : (numsZ l).length = l.length := by simp [numsZ]
def tidyAt (l : List V2) (pre : List Nat) : Nat := pre.foldl (fun k i => if aheadV (cyc l i) (cyc l k) then i else k) 0
theorem tidy_snoc (l : List V2) (pre : List Nat) (x : Nat) : tidyAt l (pre ++ [x]) = if aheadV (cyc l x) (cyc l (tidyAt l pre)) then x else tidyAt l pre := by
  unfold tidyAt
  rw [List.foldl_append]
  rfl
theorem ahead_self (u : V2) : aheadV u u = false := by
  unfold aheadV aheadB
  simp [detZ]
  rw [Int.mul_comm]
  omega
def tidyK (l : List V2) : Nat := tidyAt l (List.range l.length)
theorem tidy_fold {l : List V2} {n : Nat} (pre : List Nat) : ∀ k, k < n → (∀ i ∈ pre, i < n) → pre.foldl (fun k i => if aheadV (cyc l i) (cyc l k) then i else k) k < n := by
  induction pre with
  | nil => intro k hk _; exact hk
  | cons x pre ih =>
    intro k hk h
    refine ih _ ?_ (fun i hi => h i (List.mem_cons_of_mem _ hi))
    show (if aheadV (cyc l x) (cyc l k) then x else k) < n
    split
    · exact h x List.mem_cons_self
    · exact hk
theorem tidyAt_lt {l : List V2} (h0 : 0 < l.length) (pre : List Nat) (h : ∀ i ∈ pre, i < l.length) : tidyAt l pre < l.length := tidy_fold pre 0 h0 h
theorem tidyK_lt {l : List V2} (h0 : 0 < l.length) : tidyK l < l.length := tidyAt_lt h0 _ (fun _ hi => List.mem_range.1 hi)
def tidyL (l : List V2) : List V2 := rot (tidyK l) l
theorem tidyL_len (l : List V2) : (tidyL l).length = l.length := rot_len _ _
end Go.Proofs.YtgaeibibeekclabGreatDoor
namespace Go.Proofs.YtgaeibibeekclabGreatDoor
open Go.RowKit
abbrev Node := Nat × V2
def linkObj (p : V2) (a z : Nat) : Obj := .cells #[.int .i64 p.1, .int .i64 p.2, .pointer (some ⟨a, 0, none⟩), .pointer (some ⟨z, 0, none⟩)] 131
def Link (W : World) (b : Nat) (p : V2) (a z : Nat) : Prop := W.heap[b]? = some (linkObj p a z)
theorem Link.lt {W : World} {b : Nat} {p : V2} {a z : Nat} (h : Link W b p a z) : b < W.heap.size := (Array.getElem?_eq_some_iff.1 h).1
theorem Link.c0 {W : World} {b : Nat} {p : V2} {a z : Nat} (h : Link W b p a z) : W.cell? ⟨b, 0, none⟩ = some (.int .i64 p.1) := by simp [World.cell?, show W.heap[b]? = _ from h, linkObj]
theorem Link.c1 {W : World} {b : Nat} {p : V2} {a z : Nat} (h : Link W b p a z) : W.cell? ⟨b, 1, none⟩ = some (.int .i64 p.2) := by simp [World.cell?, show W.heap[b]? = _ from h, linkObj]
theorem Link.c2 {W : World} {b : Nat} {p : V2} {a z : Nat} (h : Link W b p a z) : W.cell? ⟨b, 2, none⟩ = some (.pointer (some ⟨a, 0, none⟩)) := by simp [World.cell?, show W.heap[b]? = _ from h, linkObj]
theorem Link.c3 {W : World} {b : Nat} {p : V2} {a z : Nat} (h : Link W b p a z) : W.cell? ⟨b, 3, none⟩ = some (.pointer (some ⟨z, 0, none⟩)) := by simp [World.cell?, show W.heap[b]? = _ from h, linkObj]
theorem Link.free {W : World} {b : Nat} {p : V2} {a z : Nat} (h : Link W b p a z) (o : Nat) : W.frozen? ⟨b, o, none⟩ = false := by simp [World.frozen?, show W.heap[b]? = _ from h, linkObj]
theorem Link.same {W W' : World} {b : Nat} {p : V2} {a z : Nat} (h : Link W b p a z) (e : W'.heap[b]? = W.heap[b]?) : Link W' b p a z := e.trans h
theorem Link.set2 {W : World} {b : Nat} {p : V2} {a z : Nat} (h : Link W b p a z) (a' : Nat) : Link (W.setCell ⟨b, 2, none⟩ (.pointer (some ⟨a', 0, none⟩))) b p a' z := by
  obtain ⟨hlt, hk⟩ := Array.getElem?_eq_some_iff.1 h
  show (W.heap.modify b _)[b]? = _
  rw [Array.getElem?_eq_getElem (by rw [Array.size_modify]; exact hlt), Array.getElem_modify_self, hk]
  rfl
theorem Link.set3 {W : World} {b : Nat} {p : V2} {a z : Nat} (h : Link W b p a z) (z' : Nat) : Link (W.setCell ⟨b, 3, none⟩ (.pointer (some ⟨z', 0, none⟩))) b p a z' := by
  obtain ⟨hlt, hk⟩ := Array.getElem?_eq_some_iff.1 h
  show (W.heap.modify b _)[b]? = _
  rw [Array.getElem?_eq_getElem (by rw [Array.size_modify]; exact hlt), Array.getElem_modify_self, hk]
  rfl
theorem Link.far {W : World} {b : Nat} {p : V2} {a z : Nat} (h : Link W b p a z) {k o : Nat} (hk : b ≠ k) (u : Value) : Link (W.setCell ⟨k, o, none⟩ u) b p a z :=
  h.same (Below.heap_setCell W ⟨k, o, none⟩ u b hk)
theorem Link.alloc {W : World} {b : Nat} {p : V2} {a z : Nat} (h : Link W b p a z) (o : Obj) : Link (W.alloc o) b p a z := h.same (Below.heap_alloc W o b h.lt)
/-- the links lie in the memory, each between the one ahead of it and the one behind it, going round -/
structure Ring (W : World) (ns : List Node) : Prop where
  pos : 0 < ns.length
  two : ∀ i j, i < ns.length → j < ns.length → (cyc ns i).1 = (cyc ns j).1 → i = j
  link : ∀ i, Link W (cyc ns i).1 (cyc ns i).2 (cyc ns (i + ns.length - 1)).1 (cyc ns (i + 1)).1
theorem Ring.same {W W' : World} {ns : List Node} (h : Ring W ns) (e : ∀ p ∈ ns, W'.heap[p.1]? = W.heap[p.1]?) : Ring W' ns :=
  ⟨h.pos, h.two, fun i => (h.link i).same (e _ (cyc_mem h.pos i))⟩
theorem Ring.lt {W : World} {ns : List Node} (h : Ring W ns) (i : Nat) : (cyc ns i).1 < W.heap.size := (h.link i).lt
theorem Ring.mem_lt {W : World} {ns : List Node} (h : Ring W ns) {p : Node} (hp : p ∈ ns) : p.1 < W.heap.size := by
  obtain ⟨i, hi, rfl⟩ := List.mem_iff_getElem.1 hp
  have := h.lt i
  rwa [cyc_lt hi, List.getElem?_eq_getElem hi] at this
theorem Ring.below {W W' : World} {ns : List Node} (h : Ring W ns) (hb : Below W.heap.size W W') : Ring W' ns := h.same (fun _ hp => hb.block _ (h.mem_lt hp))
/-- said of the indexes alone -/
theorem ring_mk {W : World} {ns : List Node} (hp : 0 < ns.length) (h2 : ∀ i j, i < ns.length → j < ns.length → (cyc ns i).1 = (cyc ns j).1 → i = j)
    (h : ∀ i, i < ns.length → Link W (cyc ns i).1 (cyc ns i).2 (if i = 0 then cyc ns (ns.length - 1) else cyc ns (i - 1)).1 (if i + 1 = ns.length then cyc ns 0 else cyc ns (i + 1)).1) : Ring W ns := by
  refine ⟨hp, h2, fun i => ?_⟩
  have hi := Nat.mod_lt i hp
  have := h _ hi
  rw [← cyc_ahead hi, ← cyc_next, cyc_mod] at this
  rwa [show cyc ns (i % ns.length + 1) = cyc ns (i + 1) from cyc_congr ns (by rw [Nat.mod_add_mod]), show cyc ns (i % ns.length + ns.length - 1) = cyc ns (i + ns.length - 1) from cyc_congr ns (by
    rw [Nat.add_sub_assoc hp, Nat.add_sub_assoc hp, Nat.mod_add_mod])] at this
theorem Ring.at {W : World} {ns : List Node} (h : Ring W ns) {i : Nat} (hi : i < ns.length) : Link W (cyc ns i).1 (cyc ns i).2 (if i = 0 then cyc ns (ns.length - 1) else cyc ns (i - 1)).1 (if i + 1 = ns.length then cyc ns 0 else cyc ns (i + 1)).1 := by
  rw [← cyc_ahead hi, ← cyc_next]
  exact h.link i
theorem Ring.rot {W : World} {ns : List Node} (h : Ring W ns) {k : Nat} (hk : k ≤ ns.length) : Ring W (rot k ns) := by
  refine ⟨by rw [rot_len]; exact h.pos, fun i j hi hj e => ?_, fun i => ?_⟩
  · rw [rot_len] at hi hj
    rw [cyc_rot hk, cyc_rot hk] at e
    rw [← cyc_mod ns (k + i), ← cyc_mod ns (k + j)] at e
    have := h.two _ _ (Nat.mod_lt _ h.pos) (Nat.mod_lt _ h.pos) e
    by_cases hi2 : k + i < ns.length <;> by_cases hj2 : k + j < ns.length
    · rw [Nat.mod_eq_of_lt hi2, Nat.mod_eq_of_lt hj2] at this; omega
    · rw [Nat.mod_eq_of_lt hi2, show k + j = (k + j - ns.length) + ns.length by omega, Nat.add_mod_right, Nat.mod_eq_of_lt (by omega)] at this; omega
    · rw [Nat.mod_eq_of_lt hj2, show k + i = (k + i - ns.length) + ns.length by omega, Nat.add_mod_right, Nat.mod_eq_of_lt (by omega)] at this; omega
    · rw [show k + i = (k + i - ns.length) + ns.length by omega, show k + j = (k + j - ns.length) + ns.length by omega, Nat.add_mod_right, Nat.add_mod_right, Nat.mod_eq_of_lt (by omega), Nat.mod_eq_of_lt (by omega)] at this; omega
  · rw [cyc_rot hk, cyc_rot hk, cyc_rot hk, rot_len]
    have := h.link (k + i)
    have hp := h.pos
    rwa [show k + i + ns.length - 1 = k + (i + ns.length - 1) by omega, show k + i + 1 = k + (i + 1) by omega] at this
theorem cyc_snoc_lt {ns : List Node} {p : Node} {i : Nat} (h : i < ns.length) : cyc (ns ++ [p]) i = cyc ns i := by
  rw [cyc_lt h, cyc_lt (by simp; omega), List.getElem?_append_left h]
theorem cyc_snoc_last {ns : List Node} {p : Node} : cyc (ns ++ [p]) ns.length = p := by
  rw [cyc_lt (by simp), List.getElem?_append_right (Nat.le_refl _)]
  simp
/-- a new link behind the last one -/
theorem Ring.put {W : World} {ns : List Node} (h : Ring W ns) (p : V2) {W1 : World} {g : Nat} (hg : W.heap.size ≤ g) (hn : Link W1 g p (cyc ns (ns.length - 1)).1 (cyc ns 0).1) (hW : ∀ k, k < W.heap.size → W1.heap[k]? = W.heap[k]?) :
    Ring ((W1.setCell ⟨(cyc ns 0).1, 2, none⟩ (.pointer (some ⟨g, 0, none⟩))).setCell ⟨(cyc ns (ns.length - 1)).1, 3, none⟩ (.pointer (some ⟨g, 0, none⟩))) (ns ++ [(g, p)]) := by
  have hp := h.pos
  refine ring_mk (by simp) (fun i j hi hj e => ?_) (fun i hi => ?_)
  · simp at hi hj
    by_cases hi2 : i < ns.length <;> by_cases hj2 : j < ns.length
    · rw [cyc_snoc_lt hi2, cyc_snoc_lt hj2] at e
      exact h.two i j hi2 hj2 e
    · obtain rfl : j = ns.length := by omega
      rw [cyc_snoc_lt hi2, cyc_snoc_last] at e
      have := h.lt i
      have e' : (cyc ns i).1 = g := e
      omega
    · obtain rfl : i = ns.length := by omega
      rw [cyc_snoc_lt hj2, cyc_snoc_last] at e
      have := h.lt j
      have e' : g = (cyc ns j).1 := e
      omega
    · omega
  · simp at hi
    have hl : (ns ++ [(g, p)]).length = ns.length + 1 := by simp
    rw [hl]
    by_cases hi2 : i < ns.length
    · have hL := (h.at hi2).same (hW _ (h.lt i))
      have e0 : i ≠ 0 → (cyc ns i).1 ≠ (cyc ns 0).1 := fun h0 e => h0 (h.two i 0 hi2 hp e)
      have e1 : i + 1 ≠ ns.length → (cyc ns i).1 ≠ (cyc ns (ns.length - 1)).1 := fun h0 e => h0 (by have := h.two i _ hi2 (by omega) e; omega)
      rw [cyc_snoc_lt hi2, if_neg (by omega : ¬ i + 1 = ns.length + 1)]
      have eL : (if i = 0 then cyc (ns ++ [(g, p)]) (ns.length + 1 - 1) else cyc (ns ++ [(g, p)]) (i - 1)).1 = if i = 0 then g else (cyc ns (i - 1)).1 := by
        split
        · rw [Nat.add_sub_cancel, cyc_snoc_last]
        · rw [cyc_snoc_lt (by omega)]
      have eR : (cyc (ns ++ [(g, p)]) (i + 1)).1 = if i + 1 = ns.length then g else (cyc ns (i + 1)).1 := by
        split
        · next e => rw [e, cyc_snoc_last]
        · rw [cyc_snoc_lt (by omega)]
      rw [eL, eR]
      by_cases i0 : i = 0
      · subst i0
        simp only [if_true] at hL ⊢
        have h2 := hL.set2 g
        by_cases i1 : 0 + 1 = ns.length
        · rw [if_pos i1] at h2 ⊢
          rw [show ns.length - 1 = 0 by omega]
          exact h2.set3 g
        · rw [if_neg i1] at h2 ⊢
          exact h2.far (e1 i1) _
      · simp only [if_neg i0] at hL ⊢
        have h2 := hL.far (o := 2) (e0 i0) (.pointer (some ⟨g, 0, none⟩))
        by_cases i1 : i + 1 = ns.length
        · rw [if_pos i1] at h2 ⊢
          have ei : ns.length - 1 = i := by omega
          rw [ei]
          exact h2.set3 g
        · rw [if_neg i1] at h2 ⊢
          exact h2.far (e1 i1) _
    · obtain rfl : i = ns.length := by omega
      rw [cyc_snoc_last, if_neg (by omega : ¬ ns.length = 0), if_pos rfl, cyc_snoc_lt (by omega), cyc_snoc_lt hp]
      have a0 := h.lt 0
      have a1 := h.lt (ns.length - 1)
      exact (hn.far (show g ≠ _ by omega) _).far (show g ≠ _ by omega) _
def fanObj (a n : Nat) : Obj := .cells #[.pointer (some ⟨a, 0, none⟩), .int .i64 n] 129
def Fan0 (W : World) (g a n : Nat) : Prop := W.heap[g]? = some (fanObj a n)
theorem Fan0.lt {W : World} {g a n : Nat} (h : Fan0 W g a n) : g < W.heap.size := (Array.getElem?_eq_some_iff.1 h).1
theorem Fan0.c0 {W : World} {g a n : Nat} (h : Fan0 W g a n) : W.cell? ⟨g, 0, none⟩ = some (.pointer (some ⟨a, 0, none⟩)) := by simp [World.cell?, show W.heap[g]? = _ from h, fanObj]
theorem Fan0.c1 {W : World} {g a n : Nat} (h : Fan0 W g a n) : W.cell? ⟨g, 1, none⟩ = some (.int .i64 n) := by simp [World.cell?, show W.heap[g]? = _ from h, fanObj]
theorem Fan0.free {W : World} {g a n : Nat} (h : Fan0 W g a n) (o : Nat) : W.frozen? ⟨g, o, none⟩ = false := by simp [World.frozen?, show W.heap[g]? = _ from h, fanObj]
theorem Fan0.set0 {W : World} {g a n : Nat} (h : Fan0 W g a n) (a' : Nat) : Fan0 (W.setCell ⟨g, 0, none⟩ (.pointer (some ⟨a', 0, none⟩))) g a' n := by
  obtain ⟨hlt, hk⟩ := Array.getElem?_eq_some_iff.1 h
  show (W.heap.modify g _)[g]? = _
  rw [Array.getElem?_eq_getElem (by rw [Array.size_modify]; exact hlt), Array.getElem_modify_self, hk]
  rfl
/-- the fan g with the links ns, from the first one on, all of it from block 'base' on -/
structure FanAt (W : World) (base g : Nat) (ns : List Node) : Prop where
  ring : Ring W ns
  head : Fan0 W g (cyc ns 0).1 ns.length
  apart : ∀ p ∈ ns, p.1 ≠ g
  low : ∀ p ∈ ns, base ≤ p.1
  lowg : base ≤ g
theorem FanAt.below {W W' : World} {base g : Nat} {ns : List Node} (h : FanAt W base g ns) (hb : Below W.heap.size W W') : FanAt W' base g ns :=
  ⟨h.ring.below hb, (hb.block g h.head.lt).trans h.head, h.apart, h.low, h.lowg⟩
def rays (ns : List Node) : List V2 := ns.map (·.2)
theorem rays_len (ns : List Node) : (rays ns).length = ns.length := by simp [rays]
theorem rays_cyc {ns : List Node} (h : 0 < ns.length) (i : Nat) : cyc (rays ns) i = (cyc ns i).2 := cyc_map _ h i
end Go.Proofs.YtgaeibibeekclabGreatDoor
