/- Fans of lists: the model's side: mathematics. -/
import Derived.Test.YtcieihbknfeddaaDoorI8
import Derived.Test.YtcieihbknfeddaaDoorI7
import Derived.Test.YtcieihbknfeddaaDoorB9
import Derived.Test.YtcieihbknfeddaaDoorKb
namespace Go.Proofs.YtcieihbknfeddaaDoor
open Go.RowKit

/-- the ones before place k, v, the others -/
def insL (L : List V2) (k : Nat) (v : V2) : List V2 := (([] ++ (L.drop 0).take k) ++ [v]) ++ (L.drop k).take (L.length - k)
theorem insL_is (L : List V2) (k : Nat) (v : V2) : insL L k v = (L.take k ++ [v]) ++ L.drop k := by
  unfold insL
  rw [List.nil_append, List.drop_zero, List.take_of_length_le (l := L.drop k) (by simp)]
theorem insL_len {L : List V2} {k : Nat} {v : V2} (h : k ≤ L.length) : (insL L k v).length = L.length + 1 := by
  rw [insL_is]; simp; omega
/-- what the model holds behind the first i vectors -/
structure Inns (l : List V2) (i : Nat) (L : List V2) : Prop where
  strict : Strict L
  mem : ∀ x, x ∈ L ↔ x ∈ l.take i
  prim : ∀ j, j < i → primV (cyc l j) = true
  le : i ≤ l.length
  small : L.length ≤ i
theorem Inns.zero (l : List V2) : Inns l 0 [] := ⟨by simp [Strict], fun x => by simp, fun j hj => by omega, Nat.zero_le _, Nat.le_refl _⟩
theorem Inns.allP {l L : List V2} {i : Nat} (h : Inns l i L) : AllP L := fun v hv => by
  have := (h.mem v).1 hv
  obtain ⟨j, hj, rfl⟩ := List.mem_iff_getElem.1 this
  have hj' : j < i := by simp at hj; omega
  have := h.prim j hj'
  rw [cyc_lt (by have := h.le; omega), List.getElem?_eq_getElem (by have := h.le; omega)] at this
  simpa [primV] using this
/-- where x goes -/
structure Spot (L : List V2) (x : V2) (k : Nat) : Prop where
  le : k ≤ L.length
  high : ∀ j, k ≤ j → j < L.length → aheadV x (cyc L j) = true
theorem Spot.top (L : List V2) (x : V2) : Spot L x L.length := ⟨Nat.le_refl _, fun j h1 h2 => by omega⟩
theorem Spot.down {L : List V2} {x : V2} {k : Nat} (h : Spot L x k) (h0 : 0 < k) (ha : aheadV x (cyc L (k - 1)) = true) : Spot L x (k - 1) :=
  ⟨by have := h.le; omega, fun j h1 h2 => by
    by_cases e : j = k - 1
    · rw [e]; exact ha
    · exact h.high j (by omega) h2⟩
theorem mem_cyc {L : List V2} {v : V2} (h : v ∈ L) : ∃ j, j < L.length ∧ v = cyc L j := by
  obtain ⟨j, hj, rfl⟩ := List.mem_iff_getElem.1 h
  exact ⟨j, hj, by rw [cyc_lt hj, List.getElem?_eq_getElem hj]; rfl⟩
theorem strict_at {L : List V2} (h : Strict L) {i j : Nat} (hij : i < j) (hj : j < L.length) : aheadV (cyc L i) (cyc L j) = true := by
  have := List.pairwise_iff_getElem.1 h i j (by omega) hj hij
  rw [cyc_lt (by omega), cyc_lt hj, List.getElem?_eq_getElem (by omega), List.getElem?_eq_getElem hj]
  exact this
theorem Inns.keep {l L : List V2} {i k : Nat} (h : Inns l i L) (hi : i < l.length) (hx : primV (cyc l i) = true) (h0 : 0 < k) (hs : Spot L (cyc l i) k) (e : cyc L (k - 1) = cyc l i) : Inns l (i + 1) L := by
  refine ⟨h.strict, fun x => ?_, take_all h.prim hx, hi, by have := h.small; omega⟩
  rw [h.mem, take_cyc hi, List.mem_append, List.mem_singleton]
  constructor
  · exact .inl
  · rintro (h1 | rfl)
    · exact h1
    · rw [← e, ← h.mem]
      exact cyc_mem (by have := hs.le; omega) _
theorem Inns.ins {l L : List V2} {i k : Nat} (h : Inns l i L) (hi : i < l.length) (hx : primV (cyc l i) = true) (hs : Spot L (cyc l i) k) (hk : 0 < k → aheadV (cyc l i) (cyc L (k - 1)) = false ∧ cyc L (k - 1) ≠ cyc l i) : Inns l (i + 1) (insL L k (cyc l i)) := by
  have hP := h.allP
  have hle := hs.le
  have hlow : ∀ v ∈ L.take k, aheadV v (cyc l i) = true := fun v hv => by
    obtain ⟨j, hj, rfl⟩ := mem_cyc (List.mem_of_mem_take hv)
    have hjk : ∃ j', j' < k ∧ cyc L j = cyc L j' := by
      obtain ⟨j', hj', e⟩ := mem_cyc hv
      have hj2 : j' < k := by simp at hj'; omega
      refine ⟨j', hj2, e.trans ?_⟩
      rw [cyc_lt hj', cyc_lt (by omega), List.getElem?_take, if_pos hj2]
    obtain ⟨j', hj', e⟩ := hjk
    rw [e]
    obtain ⟨h1, h2⟩ := hk (by omega)
    have hlast : aheadV (cyc L (k - 1)) (cyc l i) = true := by
      cases q : aheadV (cyc L (k - 1)) (cyc l i)
      · exact absurd (ahead_total (prim_one (hP _ (cyc_mem (by omega) _))) (prim_one hx) q h1) h2
      · rfl
    by_cases e2 : j' = k - 1
    · rw [e2]; exact hlast
    · exact ahead_trans (prim_nz (hP _ (cyc_mem (by omega) _))) (prim_nz (hP _ (cyc_mem (by omega) _))) (prim_nz hx) (strict_at h.strict (i := j') (j := k - 1) (by omega) (by omega)) hlast
  have hhigh : ∀ v ∈ L.drop k, aheadV (cyc l i) v = true := fun v hv => by
    obtain ⟨j, hj, rfl⟩ := mem_cyc hv
    have hj2 : k + j < L.length := by simp at hj; omega
    have : cyc (L.drop k) j = cyc L (k + j) := by rw [cyc_lt hj, cyc_lt hj2, List.getElem?_drop]
    rw [this]
    exact hs.high _ (by omega) hj2
  refine ⟨?_, fun x => ?_, take_all h.prim hx, hi, by rw [insL_len hle]; have := h.small; omega⟩
  · rw [insL_is]
    have hst := h.strict
    unfold Strict at hst ⊢
    rw [← List.take_append_drop k L] at hst
    obtain ⟨h1, h2, h3⟩ := List.pairwise_append.1 hst
    refine List.pairwise_append.2 ⟨List.pairwise_append.2 ⟨h1, by simp, fun y hy z hz => ?_⟩, h2, fun y hy z hz => ?_⟩
    · obtain rfl := List.mem_singleton.1 hz
      exact hlow y hy
    · rcases List.mem_append.1 hy with hy | hy
      · exact h3 y hy z hz
      · obtain rfl := List.mem_singleton.1 hy
        exact hhigh z hz
  · rw [insL_is, take_cyc hi]
    have hm := h.mem x
    rw [← List.take_append_drop k L, List.mem_append] at hm
    rw [List.mem_append, List.mem_append, List.mem_append]
    constructor
    · rintro ((h1 | h1) | h1)
      · exact .inl (hm.1 (.inl h1))
      · exact .inr h1
      · exact .inl (hm.1 (.inr h1))
    · rintro (h1 | h1)
      · rcases hm.2 h1 with h2 | h2
        · exact .inl (.inl h2)
        · exact .inr h2
      · exact .inl (.inr h1)
theorem Inns.done {l L : List V2} (h : Inns l l.length L) : L = sortL l ∧ ofB l = fanB (sortL l) := by
  have hp := all_prim (all_of h.prim)
  exact ⟨sort_is hp h.strict (fun x => by rw [h.mem, List.take_of_length_le (Nat.le_refl _)]), of_fan h.prim⟩
end Go.Proofs.YtcieihbknfeddaaDoor
