/- Lists of numbers and their rays: plain mathematics. -/
import Derived.Test.YtohojjoediibhaaDoorBm
namespace Go.Proofs.YtohojjoediibhaaDoor

def stepZ (a : Int) (p : V2 × V2) : V2 × V2 := (p.2, (p.2.1 * -a - p.1.1, p.2.2 * -a - p.1.2))
/-- a ray of a list of numbers and the next one -/
def pairZ (d : List Int) : Nat → V2 × V2
  | 0 => ((1, 0), (0, 1))
  | i + 1 => stepZ (gz d ((i + 1) % d.length)) (pairZ d i)
def rayN (d : List Int) (i : Nat) : V2 := (pairZ d i).1
theorem pair_fst (d : List Int) (i : Nat) : (pairZ d i).1 = rayN d i := rfl
theorem pair_snd (d : List Int) (i : Nat) : (pairZ d i).2 = rayN d (i + 1) := rfl
theorem ray_next (d : List Int) (i : Nat) : rayN d (i + 2) = ((rayN d (i + 1)).1 * -(gz d ((i + 1) % d.length)) - (rayN d i).1, (rayN d (i + 1)).2 * -(gz d ((i + 1) % d.length)) - (rayN d i).2) := rfl
def raysN (d : List Int) (n : Nat) : List V2 := (List.range n).map (rayN d)
theorem raysN_len (d : List Int) (n : Nat) : (raysN d n).length = n := by simp [raysN]
theorem raysN_succ (d : List Int) (n : Nat) : raysN d (n + 1) = raysN d n ++ [rayN d n] := by simp [raysN, List.range_succ]
theorem raysN_cyc {d : List Int} {n i : Nat} (h : i < n) : cyc (raysN d n) i = rayN d i := by
  rw [cyc_lt (by rw [raysN_len]; exact h)]
  simp [raysN, h]
def okN (d : List Int) (i : Nat) : Bool := vecB (rayN d (i + 2)).1 (rayN d (i + 2)).2
def inN (d : List Int) : Bool := (List.range d.length).all (okN d)
def numP (b n : Int) : Bool := decide (b - 100 ≤ n) && decide (n ≤ 100)
def areN (d : List Int) (b : Int) : Bool := decide (3 ≤ d.length) && (decide ((d.length : Int) ≤ 20 - b) && d.all (numP b))
def closeN (d : List Int) : Bool := decide (rayN d d.length = (1, 0)) && decide (rayN d (d.length + 1) = (0, 1))
def nfB (d : List Int) : Bool := areN d 0 && (inN d && (closeN d && fanB (raysN d d.length)))
theorem are_in {d : List Int} {b : Int} (h : areN d b = true) : 3 ≤ d.length ∧ (d.length : Int) ≤ 20 - b ∧ d.all (numP b) = true := by simpa [areN] using h
theorem num_at {d : List Int} {b : Int} (h : d.all (numP b) = true) {i : Nat} (hi : i < d.length) : b - 100 ≤ gz d i ∧ gz d i ≤ 100 := by
  have := List.all_eq_true.1 h _ (gz_mem hi)
  simpa [numP] using this
theorem ok_ray {d : List Int} {k : Nat} (h : ∀ i, i < k → okN d i = true) : ∀ j, j < k + 2 → vecB (rayN d j).1 (rayN d j).2 = true
  | 0, _ => (by decide : vecB 1 0 = true)
  | 1, _ => (by decide : vecB 0 1 = true)
  | j + 2, hj => h j (by omega)
theorem in_bad {d : List Int} {k : Nat} (hk : k < d.length) (h : okN d k = false) : inN d = false := by
  unfold inN
  rw [List.all_eq_false]
  exact ⟨k, List.mem_range.2 hk, by rw [h]; decide⟩
theorem in_good {d : List Int} (h : ∀ k, k < d.length → okN d k = true) : inN d = true := List.all_eq_true.2 (fun k hk => h k (List.mem_range.1 hk))
theorem in_at {d : List Int} (h : inN d = true) {k : Nat} (hk : k < d.length) : okN d k = true := List.all_eq_true.1 h k (List.mem_range.2 hk)
/-- the bounds of a step -/
theorem step_bd {a x : Int} (h1 : -100 ≤ a ∧ a ≤ 100) (h2 : -1000 ≤ x ∧ x ≤ 1000) : -100000 ≤ x * -a ∧ x * -a ≤ 100000 := by
  have := mul_le (A := 1000) (B := 100) h2 (show -100 ≤ -a ∧ -a ≤ 100 by omega)
  omega
theorem close_pair (d : List Int) : closeN d = decide (pairZ d d.length = ((1, 0), (0, 1))) := by
  unfold closeN
  rw [Bool.eq_iff_iff, Bool.and_eq_true, decide_eq_true_eq, decide_eq_true_eq, decide_eq_true_eq]
  constructor
  · rintro ⟨h1, h2⟩
    exact Prod.ext h1 h2
  · intro h
    exact ⟨by show (pairZ d d.length).1 = _; rw [h], by show (pairZ d d.length).2 = _; rw [h]⟩

/-! a list that closes is that of the numbers of its fan -/
theorem det_step {u v : V2} (a : Int) (h : detV u v = 1) : detV v (v.1 * -a - u.1, v.2 * -a - u.2) = 1 := by
  unfold detV detZ at *
  dsimp only
  grind
theorem det_rays (d : List Int) : ∀ i, detV (rayN d i) (rayN d (i + 1)) = 1
  | 0 => (by decide : detV (1, 0) (0, 1) = 1)
  | i + 1 => det_step _ (det_rays d i)
theorem nf_in {d : List Int} (h : nfB d = true) : areN d 0 = true ∧ inN d = true ∧ closeN d = true ∧ fanB (raysN d d.length) = true := by simpa [nfB] using h
theorem close_in {d : List Int} (h : closeN d = true) : rayN d d.length = rayN d 0 ∧ rayN d (d.length + 1) = rayN d 1 := by
  have h' : rayN d d.length = (1, 0) ∧ rayN d (d.length + 1) = (0, 1) := by simpa [closeN] using h
  exact h'
theorem cyc_rays {d : List Int} (h0 : 0 < d.length) (h : closeN d = true) {i : Nat} (hi : i < d.length + 2) : cyc (raysN d d.length) i = rayN d i := by
  obtain ⟨e1, e2⟩ := close_in h
  by_cases h1 : i < d.length
  · exact raysN_cyc h1
  · by_cases h2 : i = d.length
    · subst h2
      rw [← cyc_mod, raysN_len, Nat.mod_self, raysN_cyc h0, e1]
    · have h3 : i = d.length + 1 := by omega
      subst h3
      by_cases h4 : d.length = 1
      · exfalso
        rw [h4] at e1
        exact absurd (show ((0 : Int), (1 : Int)) = (1, 0) from e1) (by decide)
      · rw [← cyc_mod, raysN_len, show (d.length + 1) % d.length = 1 by rw [Nat.add_mod_left, Nat.mod_eq_of_lt (by omega)], raysN_cyc (by omega), e2]
theorem nf_smooth {d : List Int} (h : nfB d = true) : smoothB (raysN d d.length) = true := by
  obtain ⟨ha, _, hc, hf⟩ := nf_in h
  have h3 := (are_in ha).1
  unfold smoothB allS
  rw [hf, Bool.true_and, raysN_len]
  refine List.all_eq_true.2 (fun i hi => ?_)
  have hi' := List.mem_range.1 hi
  unfold smB
  rw [cyc_rays (by omega) hc (by omega), cyc_rays (by omega) hc (by omega), det_rays]
  rfl
theorem nf_nums {d : List Int} (h : nfB d = true) : numsZ (raysN d d.length) = d := by
  obtain ⟨ha, _, hc, hf⟩ := nf_in h
  have h3 := (are_in ha).1
  refine gz_ext (by rw [nums_len, raysN_len]) (fun j hj => ?_)
  rw [nums_len, raysN_len] at hj
  rw [gz_numsE (by rw [raysN_len]; exact hj)]
  unfold numZ
  rw [raysN_len]
  have key : ∀ i, detV (rayN d i) (rayN d (i + 2)) = -(gz d ((i + 1) % d.length)) := by
    intro i
    have := det_rays d i
    rw [ray_next]
    unfold detV detZ at *
    dsimp only
    generalize gz d ((i + 1) % d.length) = a
    grind
  by_cases h0 : j = 0
  · subst h0
    have e := key (d.length - 1)
    rw [show d.length - 1 + 1 = d.length by omega, Nat.mod_self, show d.length - 1 + 2 = d.length + 1 by omega] at e
    rw [show 0 + d.length - 1 = d.length - 1 by omega, cyc_rays (by omega) hc (by omega), cyc_rays (by omega) hc (by omega), ← (close_in hc).2, e]
    omega
  · have e := key (j - 1)
    rw [show j - 1 + 1 = j by omega, Nat.mod_eq_of_lt hj, show j - 1 + 2 = j + 1 by omega] at e
    rw [show j + d.length - 1 = (j - 1) + d.length by omega, show cyc (raysN d d.length) (j - 1 + d.length) = cyc (raysN d d.length) (j - 1) from by
      have := cyc_add (raysN d d.length) (j - 1)
      rwa [raysN_len] at this, cyc_rays (by omega) hc (by omega), cyc_rays (by omega) hc (by omega), e]
    omega
end Go.Proofs.YtohojjoediibhaaDoor
