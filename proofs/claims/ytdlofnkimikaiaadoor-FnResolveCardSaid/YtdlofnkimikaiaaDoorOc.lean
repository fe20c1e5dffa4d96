/- Resolutions: smooth, with all rays; a smooth fan is its own: the mathematics of the promises of chapter 3. -/
import Derived.Test.YtdlofnkimikaiaaDoorOb
import Derived.Test.YtdlofnkimikaiaaDoorMr
import Derived.Test.YtdlofnkimikaiaaDoorBs
namespace Go.Proofs.YtdlofnkimikaiaaDoor
open Go.RowKit

/-- each vector and the next one have the determinant 1, with z behind the last one -/
def chV (L : List V2) (z : V2) : Prop := ∀ k, k < L.length → detV (at2 (L ++ [z]) k) (at2 (L ++ [z]) (k + 1)) = 1
theorem at2_low {L M : List V2} {k : Nat} (h : k < L.length) : at2 (L ++ M) k = at2 L k := by
  unfold at2
  rw [List.getElem?_append_left h]
theorem at2_up {L M : List V2} {k : Nat} (h : L.length ≤ k) : at2 (L ++ M) k = at2 M (k - L.length) := by
  unfold at2
  rw [List.getElem?_append_right h]
theorem ch_head {a b c d : Int} (h : coneB a b c d = true) : chV (headL a b c d) (c, d) := by
  intro k hk
  have e := base_split h
  have hl : (headL a b c d).length + 1 = (fracC a b c d).length + 2 := by rw [← head_len1 h, base_count]
  rw [← e]
  exact (base_all h k).1 (by omega)
theorem ch_app {A B : List V2} {y z : V2} (hA : chV A y) (hB : chV B z) (hy : at2 (B ++ [z]) 0 = y) : chV (A ++ B) z := by
  intro k hk
  rw [List.length_append] at hk
  rw [List.append_assoc]
  by_cases h1 : k + 1 < A.length
  · have := hA k (by omega)
    rw [at2_low (by omega), at2_low h1] at this
    rw [at2_low (by omega), at2_low h1]
    exact this
  · by_cases h2 : k + 1 = A.length
    · have := hA k (by omega)
      rw [at2_low (by omega), at2_up (by omega), show k + 1 - A.length = 0 by omega] at this
      rw [at2_low (by omega), at2_up (by omega), show k + 1 - A.length = 0 by omega, hy]
      exact this
    · have := hB (k - A.length) (by omega)
      rw [at2_up (L := A) (by omega), at2_up (L := A) (k := k + 1) (by omega), show k + 1 - A.length = k - A.length + 1 by omega]
      exact this
theorem head_first {a b c d : Int} : ∃ t, headL a b c d = (a, b) :: t := by
  unfold headL baseL
  rw [List.dropLast_cons_of_ne_nil (baseZ_ne _ _ _ _ _)]
  exact ⟨_, rfl⟩
theorem ch_res {l : List V2} (h : fanB l = true) : ∀ m, chV (resL l (List.range m)) (cyc l m) ∧ (0 < m → at2 (resL l (List.range m)) 0 = cyc l 0) := by
  intro m
  induction m with
  | zero => exact ⟨fun k hk => by simp [resL] at hk, fun h => by omega⟩
  | succ m ih =>
    obtain ⟨t, ht⟩ := head_first (a := (cyc l m).1) (b := (cyc l m).2) (c := (cyc l (m + 1)).1) (d := (cyc l (m + 1)).2)
    rw [List.range_succ, resL_snoc]
    refine ⟨ch_app ih.1 (ch_head (fan_cone h m)) (by rw [ht]; rfl), fun _ => ?_⟩
    by_cases hm : m = 0
    · subst hm
      rw [show resL l (List.range 0) = [] from rfl, List.nil_append, ht]
      rfl
    · have e := ih.2 (by omega)
      have hp : 0 < (resL l (List.range m)).length := by
        obtain ⟨q, rfl⟩ : ∃ q, m = q + 1 := ⟨m - 1, by omega⟩
        obtain ⟨t', ht'⟩ := head_first (a := (cyc l q).1) (b := (cyc l q).2) (c := (cyc l (q + 1)).1) (d := (cyc l (q + 1)).2)
        rw [List.range_succ, resL_snoc, ht', List.length_append, List.length_cons]
        omega
      rw [at2_low hp]
      exact e
theorem cyc_at2 {L : List V2} {k : Nat} (h : k < L.length) : cyc L k = at2 L k := by
  rw [cyc_lt h]
  rfl
theorem res_one {l : List V2} (h : fanB l = true) (i : Nat) (h0 : 0 < (resZ l).length) : detV (cyc (resZ l) i) (cyc (resZ l) (i + 1)) = 1 := by
  have h3 := fan_len h
  obtain ⟨c1, c2⟩ := ch_res h l.length
  have c2 := c2 (by omega)
  have ez : cyc l l.length = cyc l 0 := by have := cyc_add l 0; rwa [Nat.zero_add] at this
  rw [ez] at c1
  have hk := Nat.mod_lt i h0
  have k := c1 (i % (resZ l).length) hk
  rw [← cyc_mod (resZ l) i, show cyc (resZ l) (i + 1) = cyc (resZ l) (i % (resZ l).length + 1) from (cyc_congr _ (by rw [Nat.mod_add_mod])).symm]
  unfold resZ at *
  generalize resL l (List.range l.length) = L at *
  generalize i % L.length = j at *
  rw [at2_low hk] at k
  rw [cyc_at2 hk]
  by_cases hj : j + 1 < L.length
  · rw [at2_low hj] at k
    rw [cyc_at2 hj]
    exact k
  · rw [at2_up (by omega), show j + 1 - L.length = 0 by omega, at2_zero] at k
    have e : cyc L (j + 1) = cyc L 0 := by
      have := cyc_add L 0
      rwa [show 0 + L.length = j + 1 by omega] at this
    rw [e, cyc_at2 h0, c2]
    exact k
theorem res_smooth {l : List V2} (h : resB l = true) : smoothB (resZ l) = true := by
  unfold resB at h
  rw [Bool.and_eq_true] at h
  have := fan_len h.2
  exact smooth_mk h.2 (fun i => res_one h.1 i (by omega))
theorem res_mem {l : List V2} {i : Nat} (hi : i < l.length) : cyc l i ∈ resZ l := by
  obtain ⟨t, ht⟩ := head_first (a := (cyc l i).1) (b := (cyc l i).2) (c := (cyc l (i + 1)).1) (d := (cyc l (i + 1)).2)
  unfold resZ resL
  rw [List.mem_flatMap]
  exact ⟨i, List.mem_range.2 hi, by rw [ht]; exact List.mem_cons_self ..⟩
theorem res_has {l : List V2} {i : Nat} (hi : i < l.length) : ∃ k, k < (resZ l).length ∧ cyc (resZ l) k = cyc l i := by
  obtain ⟨k, hk, e⟩ := List.mem_iff_getElem.1 (res_mem hi)
  exact ⟨k, hk, by rw [cyc_lt hk, List.getElem?_eq_getElem hk]; exact e⟩
theorem res_self {l : List V2} (h : smoothB l = true) : resZ l = l ∧ resB l = true := by
  have hS := smooth_all h
  have hf := (smooth_in h).1
  have e : resZ l = l := by
    unfold resZ resL
    have : (fun i => headL (cyc l i).1 (cyc l i).2 (cyc l (i + 1)).1 (cyc l (i + 1)).2) = fun i => [cyc l i] := funext fun i => by
      unfold headL
      rw [base_one (fan_cone hf i) (hS.2 i)]
      rfl
    rw [this]
    have e2 : ∀ r : List Nat, r.flatMap (fun i => [cyc l i]) = r.map (cyc l) := by
      intro r
      induction r with
      | nil => rfl
      | cons x t ih => rw [List.flatMap_cons, ih]; rfl
    rw [e2]
    refine List.ext_getElem (by simp) (fun j h1 h2 => ?_)
    rw [List.getElem_map, List.getElem_range, cyc_lt h2, List.getElem?_eq_getElem h2]
    rfl
  refine ⟨e, ?_⟩
  unfold resB
  rw [e, hf]
  rfl
end Go.Proofs.YtdlofnkimikaiaaDoor
