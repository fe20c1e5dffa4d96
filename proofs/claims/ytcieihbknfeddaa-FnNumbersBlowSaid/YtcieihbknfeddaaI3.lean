import Derived.Test.YtcieihbknfeddaaBm
/- Lists of numbers and their rays: plain mathematics. -/
namespace Go.Proofs.Ytcieihbknfeddaa

def stepZ (a : Int) (p : V2 × V2) : V2 × V2 := (p.2, (p.2.1 * -a - p.1.1, p.2.2 * -a - p.1.2))
/-- a ray of a list of numbers and the next one -/
def pairZ (d : List Int) : Nat → V2 × V2
  | 0 => ((1, 0), (0, 1))
  | i + 1 => stepZ (gz d ((i + 1) % d.length)) (pairZ d i)
def rayN (d : List Int) (i : Nat) : V2 := (pairZ d i).1
theorem pair_fst (d : List Int) (i : Nat) : (pairZ d i).1 = rayN d i := rfl
theorem pair_snd (d : List Int) (i : Nat) : (pairZ d i).2 = rayN d (i + 1) := rfl
theorem ray_next (d : List Int) (i : Nat) : rayN d (i + 2) = ((rayN d (i + 1)).1 * -(gz d ((i + 1) % d.length)) - (rayN d i).1, (rayN d (i + 1)).2 * -(gz d ((i + 1) % d.length)) - (rayN d i).2) := rfl
def raysN (d : List Int) (n : Nat) : List V2 := (List.range n).map (rayN d)
theorem raysN_len (d : List Int) (n : Nat) : (raysN d n).length = n := by simp [raysN]
theorem raysN_succ (d : List Int) (n : Nat) : raysN d (n + 1) = raysN d n ++ [rayN d n] := by simp [raysN, List.range_succ]
theorem raysN_cyc {d : List Int} {n i : Nat} (h : i < n) : cyc (raysN d n) i = rayN d i := by
  rw [cyc_lt (by rw [raysN_len]; exact h)]
  simp [raysN, h]
def okN (d : List Int) (i : Nat) : Bool := vecB (rayN d (i + 2)).1 (rayN d (i + 2)).2
def inN (d : List Int) : Bool := (List.range d.length).all (okN d)
def numP (b n : Int) : Bool := decide (b - 100 ≤ n) && decide (n ≤ 100)
def areN (d : List Int) (b : Int) : Bool := decide (3 ≤ d.length) && (decide ((d.length : Int) ≤ 20 - b) && d.all (numP b))
def closeN (d : List Int) : Bool := decide (rayN d d.length = (1, 0)) && decide (rayN d (d.length + 1) = (0, 1))
def nfB (d : List Int) : Bool := areN d 0 && (inN d && (closeN d && fanB (raysN d d.length)))
theorem are_in {d : List Int} {b : Int} (h : areN d b = true) : 3 ≤ d.length ∧ (d.length : Int) ≤ 20 - b ∧ d.all (numP b) = true := by simpa [areN] using h
theorem num_at {d : List Int} {b : Int} (h : d.all (numP b) = true) {i : Nat} (hi : i < d.length) : b - 100 ≤ gz d i ∧ gz d i ≤ 100 := by
  have := List.all_eq_true.1 h _ (gz_mem hi)
  simpa [numP] using this
theorem ok_ray {d : List Int} {k : Nat} (h : ∀ i, i < k → okN d i = true) : ∀ j, j < k + 2 → vecB (rayN d j).1 (rayN d j).2 = true
  | 0, _ => (by decide : vecB 1 0 = true)
  | 1, _ => (by decide : vecB 0 1 = true)
  | j + 2, hj => h j (by omega)
theorem in_bad {d : List Int} {k : Nat} (hk : k < d.length) (h : okN d k = false) : inN d = false := by
  unfold inN
  rw [List.all_eq_false]
  exact ⟨k, List.mem_range.2 hk, by rw [h]; decide⟩
theorem in_good {d : List Int} (h : ∀ k, k < d.length → okN d k = true) : inN d = true := List.all_eq_true.2 (fun k hk => h k (List.mem_range.1 hk))
theorem in_at {d : List Int} (h : inN d = true) {k : Nat} (hk : k < d.length) : okN d k = true := List.all_eq_true.1 h k (List.mem_range.2 hk)
/-- the bounds of a step -/
theorem step_bd {a x : Int} (h1 : -100 ≤ a ∧ a ≤ 100) (h2 : -1000 ≤ x ∧ x ≤ 1000) : -100000 ≤ x * -a ∧ x * -a ≤ 100000 := by
  have := mul_le (A := 1000) (B := 100) h2 (show -100 ≤ -a ∧ -a ≤ 100 by omega)
  omega
theorem close_pair (d : List Int) : closeN d = decide (pairZ d d.length = ((1, 0), (0, 1))) := by
  unfold closeN
  rw [Bool.eq_iff_iff, Bool.and_eq_true, decide_eq_true_eq, decide_eq_true_eq, decide_eq_true_eq]
  constructor
  · rintro ⟨h1, h2⟩
    exact Prod.ext h1 h2
  · intro h
    exact ⟨by show (pairZ d d.length).1 = _; rw [h], by show (pairZ d d.length).2 = _; rw [h]⟩

/-! a list that closes is that of the numbers of its fan -/
theorem det_step {u v : V2} (a : Int) (h : detV u v = 1) : detV v (v.1 * -a - u.1, v.2 * -a - u.2) = 1 := by
  unfold detV detZ at *
  dsimp only
  grind
theorem det_rays (d : List Int) : ∀ i, detV (rayN d i) (rayN d (i + 1)) = 1
  | 0 => (by decide : detV (1, 0) (0, 1) = 1)
  | i + 1 => det_step _ (det_rays d i)
theorem nf_in {d : List Int} (h : nfB d = true) : areN d 0 = true ∧ inN d = true ∧ closeN d = true ∧ fanB (raysN d d.length) = true := by simpa [nfB] using h
theorem close_in {d : List Int} (h : closeN d = true) : rayN d d.length = rayN d 0 ∧ rayN d (d.length + 1) = rayN d 1 := by
  have h' : rayN d d.length = (1, 0) ∧ rayN d (d.length + 1) = (0, 1) := by simpa [closeN] using h
  exact h'
theorem cyc_rays {d : List Int} (h0 : 0 < d.length) (h : closeN d = true) {i : Nat} (hi : i < d.length + 2) : cyc (raysN d d.length) i = rayN d i := by
  obtain ⟨e1, e2⟩ := close_in h
  by_cases h1 : i < d.length
  · exact raysN_cyc h1
  · by_cases h2 : i = d.length
    · subst h2
      rw [← cyc_mod, raysN_len, Nat.mod_self, raysN_cyc h0, e1]
    · have h3 : i = d.length + 1 := by omega
      subst h3
      by_cases h4 : d.length = 1
      · exfalso
        rw [h4] at e1
        exact absurd (show ((0 : Int), (1 : Int)) = (1, 0) from e1) (by decide)
      · rw [← cyc_mod, raysN_len, show (d.length + 1) % d.length = 1 by rw [Nat.add_mod_left, Nat.mod_eq_of_lt (by omega)], raysN_cyc (by omega), e2]
theorem nf_smooth {d : List Int} (h : nfB d = true) : smoothB (raysN d d.length) = true := by
  obtain ⟨ha, _, hc, hf⟩ := nf_in h
  have h3 := (are_in ha).1
  unfold smoothB allS
  rw [hf, Bool.true_and, raysN_len]
  refine List.all_eq_true.2 (fun i hi => ?_)
  have hi' := List.mem_range.1 hi
  unfold smB
  rw [cyc_rays (by omega) hc (by omega), cyc_rays (by omega) hc (by omega), det_rays]
  rfl
theorem nf_nums {d : List Int} (h : nfB d = true) : numsZ (raysN d d.length) = d := by
  obtain ⟨ha, _, hc, hf⟩ := nf_in h
  have h3 := (are_in ha).1
  refine gz_ext (by rw [nums_len, raysN_len]) (fun j hj => ?_)
  rw [nums_len, raysN_len] at hj
  rw [gz_numsE (by rw [raysN_len]; exact hj)]
  unfold numZ
  rw [raysN_len]
  have key : ∀ i, detV (rayN d i) (rayN d (i + 2)) = -(gz d ((i + 1) % d.length)) := by
    intro i
    have := det_rays d i
    rw [ray_next]
    unfold detV detZ at *
    dsimp only
    generalize gz d ((i + 1) % d.length) = a
    grind
  by_cases h0 : j = 0
  · subst h0
    have e := key (d.length - 1)
    rw [show d.length - 1 + 1 = d.length by omega, Nat.mod_self, show d.length - 1 + 2 = d.length + 1 by omega] at e
    rw [show 0 + d.length - 1 = d.length - 1 by omega, cyc_rays (by omega) hc (by omega), cyc_rays (by omega) hc (by omega), ← (close_in hc).2, e]
    omega
  · have e := key (j - 1)
    rw [show j - 1 + 1 = j by omega, Nat.mod_eq_of_lt hj, show j - 1 + 2 = j + 1 by omega] at e
    rw [show j + d.length - 1 = (j - 1) + d.length by omega, show cyc (raysN d d.length) (j - 1 + d.length) = cyc (raysN d d.length) (j - 1) from by
      have := cyc_add (raysN d d.length) (j - 1)
      rwa [raysN_len] at this, cyc_rays (by omega) hc (by omega), cyc_rays (by omega) hc (by omega), e]
    omega
end Go.Proofs.Ytcieihbknfeddaa

/- NumbersBlow: the lists. -/
namespace Go.Proofs.Ytcieihbknfeddaa

def decZ (d : List Int) (i k : Nat) : Int := if k = i ∨ k = (i + 1) % d.length then gz d k - 1 else gz d k
def decT (d : List Int) (i k : Nat) : List Int := (List.range k).map (decZ d i)
def putN (d : List Int) (i : Nat) (x : Int) : List Int := d.take i ++ x :: d.drop i
def blN (d : List Int) (i : Nat) : List Int := putN (decT d i d.length) (i + 1) (-1)
def nbB (d : List Int) (x : Int) : Bool := areN d 1 && (decide (0 ≤ x) && decide (x < d.length))
def outK (d : List Int) (i : Nat) : Nat → List Int
  | 0 => []
  | k + 1 => outK d i k ++ [decZ d i k] ++ (if k = i then [-1] else [])
theorem decT_succ (d : List Int) (i k : Nat) : decT d i (k + 1) = decT d i k ++ [decZ d i k] := by simp [decT, List.range_succ]
theorem decT_len (d : List Int) (i k : Nat) : (decT d i k).length = k := by simp [decT]
theorem outK_len (d : List Int) (i k : Nat) : (outK d i k).length ≤ k + 1 ∧ (i < k ∨ (outK d i k).length ≤ k) := by
  induction k with
  | zero => simp [outK]
  | succ k ih =>
    unfold outK
    rw [List.length_append, List.length_append]
    by_cases h : k = i
    · rw [if_pos h]; simp; omega
    · rw [if_neg h]; simp; omega
theorem outK_le (d : List Int) (i k : Nat) : (outK d i k).length ≤ k + 1 := (outK_len d i k).1
theorem outK_eq (d : List Int) (i k : Nat) : outK d i k = if k ≤ i then decT d i k else putN (decT d i k) (i + 1) (-1) := by
  induction k with
  | zero => rw [if_pos (Nat.zero_le _)]; rfl
  | succ k ih =>
    unfold outK
    rw [ih]
    by_cases h1 : k < i
    · rw [if_pos (by omega), if_neg (by omega), if_pos (by omega), decT_succ, List.append_nil]
    · by_cases h2 : k = i
      · subst h2
        rw [if_pos (Nat.le_refl _), if_pos rfl, if_neg (by omega), ← decT_succ]
        unfold putN
        have hl := decT_len d k (k + 1)
        rw [List.take_of_length_le (by omega), List.drop_of_length_le (by omega)]
      · rw [if_neg (by omega), if_neg h2, if_neg (by omega), List.append_nil, decT_succ]
        unfold putN
        have hl := decT_len d i k
        rw [List.take_append_of_le_length (by omega), List.drop_append_of_le_length (by omega)]
        simp
theorem outK_all {d : List Int} {i : Nat} (h : i < d.length) : outK d i d.length = blN d i := by
  rw [outK_eq, if_neg (by omega)]
  rfl
theorem nb_in {d : List Int} {x : Int} (h : nbB d x = true) : areN d 1 = true ∧ 0 ≤ x ∧ x < d.length := by simpa [nbB] using h
theorem nb_len {d : List Int} {x : Int} (h : (decide ((3 : Int) ≤ (d.length : Int)) && decide ((d.length : Int) ≤ 19)) = false) : nbB d x = false := by
  cases h' : nbB d x
  · rfl
  · have ha := are_in (nb_in h').1
    have : (decide ((3 : Int) ≤ (d.length : Int)) && decide ((d.length : Int) ≤ 19)) = true := by simp; omega
    rw [this] at h
    exact h
theorem nb_idx {d : List Int} {x : Int} (h : (decide (0 ≤ x) && decide (x ≤ (d.length : Int) - 1)) = false) : nbB d x = false := by
  cases h' : nbB d x
  · rfl
  · have ha := nb_in h'
    have : (decide (0 ≤ x) && decide (x ≤ (d.length : Int) - 1)) = true := by simp; omega
    rw [this] at h
    exact h
theorem nb_num {d : List Int} {x : Int} {q : Nat} (hq : q < d.length) (h : (decide (-99 ≤ gz d q) && decide (gz d q ≤ 100)) = false) : nbB d x = false := by
  cases h' : nbB d x
  · rfl
  · have ha := num_at (are_in (nb_in h').1).2.2 hq
    have : (decide (-99 ≤ gz d q) && decide (gz d q ≤ 100)) = true := by simp; omega
    rw [this] at h
    exact h
theorem nb_good {d : List Int} {x : Int} (h3 : 3 ≤ d.length) (h19 : d.length ≤ 19) (h0 : 0 ≤ x) (hx : x < d.length) (h : ∀ q, q < d.length → (decide (-99 ≤ gz d q) && decide (gz d q ≤ 100)) = true) : nbB d x = true := by
  have ha : d.all (numP 1) = true := by
    rw [List.all_eq_true]
    intro y hy
    obtain ⟨q, hq, rfl⟩ := List.getElem_of_mem hy
    have e : gz d q = d[q] := by simp [gz, hq]
    have := h q hq
    rw [e] at this
    simpa [numP] using this
  unfold nbB areN
  rw [ha]
  simp
  omega
theorem dec_bnd {d : List Int} {x : Int} (h : nbB d x = true) (i : Nat) {k : Nat} (hk : k < d.length) : -100 ≤ decZ d i k ∧ decZ d i k ≤ 100 := by
  have := num_at (are_in (nb_in h).1).2.2 hk
  unfold decZ
  split <;> omega
end Go.Proofs.Ytcieihbknfeddaa
