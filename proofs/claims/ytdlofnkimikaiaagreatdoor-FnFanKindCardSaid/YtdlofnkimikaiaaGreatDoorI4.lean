import Derived.Test.YtdlofnkimikaiaaGreatDoorB9
import Derived.Test.YtdlofnkimikaiaaGreatDoorBf
import Derived.Test.YtdlofnkimikaiaaGreatDoorBe
import Derived.Test.YtdlofnkimikaiaaGreatDoorBm
import Derived.Test.YtdlofnkimikaiaaGreatDoorKc
import Derived.Test.YtdlofnkimikaiaaGreatDoorI3
import Derived.Test.YtdlofnkimikaiaaGreatDoorEw
import Derived.Test.YtdlofnkimikaiaaGreatDoorI5
/- FanConvex: the program, the model. -/
namespace Go.Proofs.YtdlofnkimikaiaaGreatDoor
open Go.RowKit

def cvxP (n : Int) : Bool := decide (-2 ≤ n)
def cvxL (d : List Int) : Bool := d.all cvxP
def convB (l : List V2) : Bool := smoothB l && cvxL (numsZ l)
theorem cvx_bad {d : List Int} {k : Nat} (hk : k < d.length) (h : cvxP (gz d k) = false) : cvxL d = false := by
  unfold cvxL
  rw [List.all_eq_false]
  exact ⟨_, gz_mem hk, by rw [h]; decide⟩
theorem cvx_good {d : List Int} (h : ∀ k, k < d.length → cvxP (gz d k) = true) : cvxL d = true := by
  unfold cvxL
  rw [List.all_eq_true]
  intro x hx
  obtain ⟨i, hi, rfl⟩ := List.mem_iff_getElem.1 hx
  have := h i hi
  unfold gz at this
  rwa [List.getElem?_eq_getElem hi] at this
end Go.Proofs.YtdlofnkimikaiaaGreatDoor

/- Fans blown up, kinds, surfaces by their numbers: the mathematics of the promises. -/
namespace Go.Proofs.YtdlofnkimikaiaaGreatDoor
open Go.RowKit

theorem blow_get {l : List V2} {i : Nat} {p : V2} (h : i < l.length) {j : Nat} (hj : j ≤ l.length) : cyc (blowL l i p) j = if j ≤ i then cyc l j else if j = i + 1 then p else cyc l (j - 1) := by
  rw [cyc_lt (by rw [blowL_len h]; omega)]
  unfold blowL
  have e : (l.take (i + 1)).length = i + 1 := by simp; omega
  by_cases h1 : j ≤ i
  · rw [if_pos h1, List.append_assoc, List.getElem?_append_left (by omega), List.getElem?_take_of_lt (by omega), cyc_lt (by omega)]
  · rw [if_neg h1]
    by_cases h2 : j = i + 1
    · rw [if_pos h2, List.append_assoc, List.getElem?_append_right (by omega), e, h2, Nat.sub_self]
      rfl
    · have e2 : (l.take (i + 1) ++ [p]).length = i + 2 := by simp; omega
      rw [if_neg h2, List.getElem?_append_right (by omega), e2, List.getElem?_drop, show i + 1 + (j - (i + 2)) = j - 1 by omega, cyc_lt (by omega)]
theorem blow_nx {l : List V2} {i : Nat} {p : V2} (h : i < l.length) {j : Nat} (hj : j ≤ l.length) : cyc (blowL l i p) (j + 1) = if j < i then cyc l (j + 1) else if j = i then p else cyc l j := by
  by_cases h1 : j = l.length
  · have e : j + 1 = 0 + (blowL l i p).length := by rw [blowL_len h]; omega
    rw [e, cyc_add, blow_get h (Nat.zero_le _), if_pos (Nat.zero_le _), if_neg (by omega), if_neg (by omega), h1]
    have := cyc_add l 0
    rw [Nat.zero_add] at this
    exact this.symm
  · rw [blow_get h (by omega)]
    by_cases h2 : j < i
    · rw [if_pos (by omega), if_pos h2]
    · by_cases h3 : j = i
      · rw [if_neg (by omega), if_pos (by omega), if_neg h2, if_pos h3]
      · rw [if_neg (by omega), if_neg (by omega), if_neg h2, if_neg h3, Nat.add_sub_cancel]
theorem blow_pv {l : List V2} {i : Nat} {p : V2} (h : i < l.length) {j : Nat} (hj : j ≤ l.length) : cyc (blowL l i p) (j + (l.length + 1) - 1) = if j = 0 then (if i + 1 = l.length then p else cyc l (l.length - 1)) else if j ≤ i + 1 then cyc l (j - 1) else if j = i + 2 then p else cyc l (j - 2) := by
  by_cases h0 : j = 0
  · rw [if_pos h0, h0, show 0 + (l.length + 1) - 1 = l.length by omega, blow_get h (Nat.le_refl _), if_neg (by omega)]
    by_cases h1 : i + 1 = l.length
    · rw [if_pos h1, if_pos h1.symm]
    · rw [if_neg h1, if_neg (fun e => h1 e.symm)]
  · rw [if_neg h0, show j + (l.length + 1) - 1 = j - 1 + (blowL l i p).length by rw [blowL_len h]; omega, cyc_add, blow_get h (by omega)]
    by_cases h1 : j ≤ i + 1
    · rw [if_pos (by omega), if_pos h1]
    · by_cases h2 : j = i + 2
      · rw [if_neg (by omega), if_pos (by omega), if_neg h1, if_pos h2]
      · rw [if_neg (by omega), if_neg (by omega), if_neg h1, if_neg h2, show j - 1 - 1 = j - 2 by omega]
theorem gz_put {d : List Int} {i : Nat} {x : Int} (hi : i ≤ d.length) {j : Nat} : gz (putN d i x) j = if j < i then gz d j else if j = i then x else gz d (j - 1) := by
  unfold putN gz
  have e : (d.take i).length = i := by simp; omega
  by_cases h1 : j < i
  · rw [if_pos h1, List.getElem?_append_left (by omega), List.getElem?_take_of_lt h1]
  · rw [if_neg h1, List.getElem?_append_right (by omega), e]
    by_cases h2 : j = i
    · rw [if_pos h2, h2, Nat.sub_self]
      rfl
    · rw [if_neg h2, show j - i = (j - i - 1) + 1 by omega, List.getElem?_cons_succ, List.getElem?_drop, show i + (j - i - 1) = j - 1 by omega]
theorem blN_len {d : List Int} {i : Nat} (h : i < d.length) : (blN d i).length = d.length + 1 := by
  unfold blN putN
  have := decT_len d i d.length
  simp
  omega
theorem gz_blN {d : List Int} {i : Nat} (h : i < d.length) {j : Nat} (hj : j ≤ d.length) : gz (blN d i) j = if j ≤ i then decZ d i j else if j = i + 1 then -1 else decZ d i (j - 1) := by
  unfold blN
  rw [gz_put (by rw [decT_len]; omega)]
  unfold decT
  by_cases h1 : j ≤ i
  · rw [if_pos (by omega), if_pos h1, gz_tab _ (by omega)]
  · by_cases h2 : j = i + 1
    · rw [if_neg (by omega), if_pos h2, if_neg h1, if_pos h2]
    · rw [if_neg (by omega), if_neg h2, if_neg h1, if_neg h2, gz_tab _ (by omega)]
/-- the numbers of a fan that is blown up -/
theorem num_blow {l : List V2} {i : Nat} (hS : Smooth l) (h : i < l.length) (h3 : 3 ≤ l.length) {j : Nat} (hj : j ≤ l.length) : numZ (blowL l i (blowP l i)) j = if j ≤ i then decZ (numsZ l) i j else if j = i + 1 then -1 else decZ (numsZ l) i (j - 1) := by
  have hL : (blowL l i (blowP l i)).length = l.length + 1 := blowL_len h
  have hn : (numsZ l).length = l.length := nums_len l
  have e : numZ (blowL l i (blowP l i)) j = -(detV (cyc (blowL l i (blowP l i)) (j + (l.length + 1) - 1)) (cyc (blowL l i (blowP l i)) (j + 1))) := by unfold numZ; rw [hL]
  rw [e, blow_pv h hj, blow_nx h hj]
  have d0 := hS.2 i
  unfold decZ
  rw [hn]
  have hm : (i + 1) % l.length = if i + 1 = l.length then 0 else i + 1 := by
    by_cases c : i + 1 = l.length
    · rw [if_pos c, c, Nat.mod_self]
    · rw [if_neg c, Nat.mod_eq_of_lt (by omega)]
  rw [hm]
  have addl : ∀ a b c : V2, detV (a.1 + b.1, a.2 + b.2) c = detV a c + detV b c := fun a b c => by unfold detV detZ; grind
  have addr : ∀ a b c : V2, detV a (b.1 + c.1, b.2 + c.2) = detV a b + detV a c := fun a b c => by unfold detV detZ; grind
  have hp : blowP l i = ((cyc l i).1 + (cyc l (i + 1)).1, (cyc l i).2 + (cyc l (i + 1)).2) := rfl
  by_cases j0 : j = 0
  · subst j0
    rw [if_pos rfl, if_pos (Nat.zero_le _), gz_numsE (by omega)]
    have n0 : numZ l 0 = -(detV (cyc l (l.length - 1)) (cyc l 1)) := by unfold numZ; rw [Nat.zero_add, Nat.zero_add]
    by_cases c : i + 1 = l.length
    · have ci : i = l.length - 1 := by omega
      have cz : cyc l (i + 1) = cyc l 0 := by rw [c]; have := cyc_add l 0; rwa [Nat.zero_add] at this
      have d1 := hS.2 0
      rw [Nat.zero_add] at d1
      rw [Nat.zero_add, if_pos c, if_pos c, if_pos (by omega), if_pos (.inr rfl), hp, addl, cz, n0, ← ci, d1]
      omega
    · have dl := hS.2 (l.length - 1)
      have cz : cyc l (l.length - 1 + 1) = cyc l 0 := by rw [show l.length - 1 + 1 = 0 + l.length by omega, cyc_add]
      rw [cz] at dl
      rw [if_neg c, if_neg c, Nat.zero_add]
      by_cases ci : i = 0
      · subst ci
        rw [if_neg (by omega), if_pos rfl, if_pos (.inl rfl), hp, addr, dl, n0, Nat.zero_add]
        omega
      · rw [if_pos (by omega), if_neg (by omega), n0]
  · rw [if_neg j0]
    have nj : ∀ k, numZ l (k + 1) = -(detV (cyc l k) (cyc l (k + 2))) := fun k => by
      unfold numZ
      rw [show k + 1 + l.length - 1 = k + l.length by omega, cyc_add]
    obtain ⟨m, rfl⟩ : ∃ m, j = m + 1 := ⟨j - 1, by omega⟩
    by_cases c1 : m + 1 ≤ i
    · have dm := hS.2 m
      rw [if_pos (by omega), if_pos c1, gz_numsE (by omega), nj, Nat.add_sub_cancel]
      by_cases c2 : m + 1 = i
      · rw [if_neg (by omega), if_pos c2, if_pos (.inl c2), hp, addr, ← c2, dm, show m + 1 + 1 = m + 2 from rfl]
        omega
      · rw [if_pos (by omega), if_neg (fun hc => by rcases hc with hc | hc; exact c2 hc; split at hc <;> omega), show m + 1 + 1 = m + 2 from rfl]
    · rw [if_neg c1]
      by_cases c2 : m + 1 = i + 1
      · have cm : m = i := by omega
        subst cm
        rw [if_pos (Nat.le_refl _), if_neg (by omega), if_neg (by omega), if_pos rfl, Nat.add_sub_cancel, d0]
      · obtain ⟨k, rfl⟩ : ∃ k, m = k + 1 := ⟨m - 1, by omega⟩
        have d1 := hS.2 (k + 1)
        rw [show k + 1 + 1 = k + 2 from rfl] at *
        by_cases c3 : k = i
        · subst c3
          rw [if_neg (by omega), if_pos rfl, if_neg (by omega), if_neg (by omega), if_neg c2, show k + 2 - 1 = k + 1 by omega, gz_numsE (by omega), nj, if_pos (.inr (by rw [if_neg (by omega)])), hp, addl, d1]
          omega
        · rw [if_neg (by omega), if_neg (by omega), if_neg (by omega), if_neg (by omega), if_neg c2, show k + 2 - 1 = k + 1 by omega, show k + 2 - 2 = k by omega, gz_numsE (by omega), nj, if_neg (fun hc => by rcases hc with hc | hc; omega; split at hc <;> omega)]
theorem nums_blow {l : List V2} {i : Nat} (hS : Smooth l) (h : i < l.length) (h3 : 3 ≤ l.length) : numsZ (blowL l i (blowP l i)) = blN (numsZ l) i := by
  have hL : (blowL l i (blowP l i)).length = l.length + 1 := blowL_len h
  have hn : (numsZ l).length = l.length := nums_len l
  refine gz_ext (by rw [nums_len, blN_len (by omega), hL, hn]) (fun j hj => ?_)
  rw [nums_len, hL] at hj
  rw [gz_numsE (by omega), num_blow hS h h3 (by omega), gz_blN (by omega) (by omega)]
theorem blowB_in {l : List V2} {i : Int} (h : (smoothB l && blowB l i) = true) : smoothB l = true ∧ ∃ m : Nat, i = m ∧ m < l.length ∧ fanB (blowL l m (blowP l m)) = true := by
  rw [Bool.and_eq_true] at h
  refine ⟨h.1, ?_⟩
  have h2 := h.2
  unfold blowB at h2
  rw [Bool.and_eq_true] at h2
  obtain ⟨m, hm, hlt⟩ := idx_in h2.1
  subst hm
  exact ⟨m, rfl, hlt, h2.2⟩
theorem down_blow {l : List V2} {i : Nat} {p : V2} (h : i < l.length) : downL (blowL l i p) (i + 1) = l := by
  unfold downL blowL
  have e : (l.take (i + 1)).length = i + 1 := by simp; omega
  have e2 : (l.take (i + 1) ++ [p]).length = i + 1 + 1 := by simp; omega
  rw [List.drop_left' e2, List.append_assoc, List.take_left' e, List.take_append_drop]
/-! ample, the kinds -/
theorem sumZ_low {f : Nat → Int} {c : Int} {n : Nat} (h : ∀ i, i < n → c ≤ f i) : (n : Int) * c ≤ sumZ f n := by
  induction n with
  | zero => simp [sumZ]
  | succ n ih =>
    have h1 := ih (fun i hi => h i (by omega))
    have h2 := h n (by omega)
    rw [sumZ_succ, show ((n + 1 : Nat) : Int) * c = (n : Int) * c + c by rw [Int.natCast_add, Int.add_mul]; simp]
    omega
theorem amp8_in {l : List V2} (h : amp8 l = true) : smoothB l = true ∧ ∀ i, i < l.length → -1 ≤ numZ l i := by
  unfold amp8 at h
  rw [Bool.and_eq_true] at h
  refine ⟨h.1, fun i hi => ?_⟩
  have := List.all_eq_true.1 h.2 (numZ l i) (by unfold numsZ; exact List.mem_map.2 ⟨i, List.mem_range.2 hi, rfl⟩)
  unfold ampN at this
  simpa using this
theorem amp8_few {l : List V2} (h : amp8 l = true) : l.length ≤ 6 := by
  obtain ⟨hs, hn⟩ := amp8_in h
  have h12 := twelve_sum hs
  have h2 := sumZ_low (f := fun i => 3 + numZ l i) (c := 2) (n := l.length) (fun i hi => by have := hn i hi; omega)
  unfold sum3 at h12
  omega
theorem ones_div {l : List V2} (h : smoothB l = true) : divB l (List.replicate l.length 1) = true := div_mk h (by simp) (fun j => by
  by_cases hj : j < l.length
  · rw [ones_gz hj]; omega
  · rw [gz_out (by simp; omega)]; omega)
theorem amp8_ample {l : List V2} (h : amp8 l = true) : ampDB l (List.replicate l.length 1) = true := by
  obtain ⟨hs, hn⟩ := amp8_in h
  unfold ampDB
  rw [ones_div hs, Bool.true_and]
  refine List.all_eq_true.2 (fun x hx => ?_)
  obtain ⟨i, hi, rfl⟩ := List.mem_map.1 hx
  have hi := List.mem_range.1 hi
  rw [ones_deg hi]
  have := hn i hi
  simp
  omega
theorem amp8_conv {l : List V2} (h : amp8 l = true) : convB l = true := by
  obtain ⟨hs, hn⟩ := amp8_in h
  unfold convB
  rw [hs, Bool.true_and]
  refine List.all_eq_true.2 (fun x hx => ?_)
  obtain ⟨i, hi, rfl⟩ := List.mem_map.1 hx
  have hi := List.mem_range.1 hi
  have := hn i hi
  unfold cvxP
  simp
  omega
theorem ones_snoc {W : World} {b k : Nat} {v : Value} (h : W.ownsRow b 3 1 v (k + 1) (intsV (List.replicate k 1) ++ [.int .i64 1])) : Ints W b v (List.replicate (k + 1) 1) := by
  have e : intsV (List.replicate (k + 1) 1) = intsV (List.replicate k 1) ++ [.int .i64 1] := by
    rw [List.replicate_succ']
    simp [intsV]
  unfold Ints
  rw [List.length_replicate, e]
  exact h
theorem square_is {l : List V2} (h : smoothB l = true) : prodZ l (canL l.length) (canL l.length) = 12 - l.length := prod_can h
end Go.Proofs.YtdlofnkimikaiaaGreatDoor

/- Surfaces of a kind: smooth, with two numbers 0. -/
namespace Go.Proofs.YtdlofnkimikaiaaGreatDoor
open Go.RowKit

theorem kin_smooth {k : Int} (h : kinB k = true) : smoothB (kinL k) = true := by
  have h2 : 0 ≤ k ∧ k ≤ 100 := by simpa [kinB] using h
  obtain ⟨n, rfl⟩ := Int.eq_ofNat_of_zero_le h2.1
  have : ∀ n : Fin 101, smoothB (kinL ((n : Nat) : Int)) = true := by decide +kernel
  exact this ⟨n, by omega⟩
theorem kin_nums (k : Int) : numsZ (kinL k) = [0, -k, 0, k] := by
  simp [numsZ, kinL, numZ, detV, detZ, cyc, List.range_succ]
theorem kin_num (k : Int) : numZ (kinL k) 0 = 0 ∧ numZ (kinL k) 1 = -k := by
  simp [kinL, numZ, detV, detZ, cyc]
theorem kin_four {k : Int} (h : kinB k = true) : kind4 (kinL k) = k := by
  have h2 : 0 ≤ k ∧ k ≤ 100 := by simpa [kinB] using h
  obtain ⟨n0, n1⟩ := kin_num k
  unfold kind4 kindM
  rw [n0, n1, if_neg (by simp [kinL]), if_pos (by simp [kinL])]
  split <;> split <;> omega
theorem idx_mk {l : List V2} {i : Nat} (h : i < l.length) : idxB l (i : Int) = true := by
  unfold idxB
  simp
  exact h
theorem downB_blow {l : List V2} {i : Nat} (hS : Smooth l) (h : i < l.length) (h3 : 3 ≤ l.length) : downB (blowL l i (blowP l i)) (i + 1) = true := by
  unfold downB
  rw [num_blow hS h h3 (by omega), if_neg (by omega), if_pos rfl, blowL_len h, decide_eq_true (by omega)]
  rfl
theorem Ints.four (w : World) (x y z u : Int) : Ints (w.alloc (.cells #[.int .i64 x, .int .i64 y, .int .i64 z, .int .i64 u] 3)) w.heap.size (.slice (some ⟨w.heap.size, 0, none⟩) 4 4) [x, y, z, u] :=
  ⟨rfl, .inr ⟨w.heap.size, 4, #[.int .i64 x, .int .i64 y, .int .i64 z, .int .i64 u], rfl, Nat.le_refl _, heap_alloc_new w _, Nat.le_refl _, by decide, rfl, rfl⟩⟩
end Go.Proofs.YtdlofnkimikaiaaGreatDoor
