/- NumbersBlow: the lists. -/
import Derived.Test.YtohojjoediibhaaDoorEd
namespace Go.Proofs.YtohojjoediibhaaDoor

def decZ (d : List Int) (i k : Nat) : Int := if k = i ∨ k = (i + 1) % d.length then gz d k - 1 else gz d k
def decT (d : List Int) (i k : Nat) : List Int := (List.range k).map (decZ d i)
def putN (d : List Int) (i : Nat) (x : Int) : List Int := d.take i ++ x :: d.drop i
def blN (d : List Int) (i : Nat) : List Int := putN (decT d i d.length) (i + 1) (-1)
def nbB (d : List Int) (x : Int) : Bool := areN d 1 && (decide (0 ≤ x) && decide (x < d.length))
def outK (d : List Int) (i : Nat) : Nat → List Int
  | 0 => []
  | k + 1 => outK d i k ++ [decZ d i k] ++ (if k = i then [-1] else [])
theorem decT_succ (d : List Int) (i k : Nat) : decT d i (k + 1) = decT d i k ++ [decZ d i k] := by simp [decT, List.range_succ]
theorem decT_len (d : List Int) (i k : Nat) : (decT d i k).length = k := by simp [decT]
theorem outK_len (d : List Int) (i k : Nat) : (outK d i k).length ≤ k + 1 ∧ (i < k ∨ (outK d i k).length ≤ k) := by
  induction k with
  | zero => simp [outK]
  | succ k ih =>
    unfold outK
    rw [List.length_append, List.length_append]
    by_cases h : k = i
    · rw [if_pos h]; simp; omega
    · rw [if_neg h]; simp; omega
theorem outK_le (d : List Int) (i k : Nat) : (outK d i k).length ≤ k + 1 := (outK_len d i k).1
theorem outK_eq (d : List Int) (i k : Nat) : outK d i k = if k ≤ i then decT d i k else putN (decT d i k) (i + 1) (-1) := by
  induction k with
  | zero => rw [if_pos (Nat.zero_le _)]; rfl
  | succ k ih =>
    unfold outK
    rw [ih]
    by_cases h1 : k < i
    · rw [if_pos (by omega), if_neg (by omega), if_pos (by omega), decT_succ, List.append_nil]
    · by_cases h2 : k = i
      · subst h2
        rw [if_pos (Nat.le_refl _), if_pos rfl, if_neg (by omega), ← decT_succ]
        unfold putN
        have hl := decT_len d k (k + 1)
        rw [List.take_of_length_le (by omega), List.drop_of_length_le (by omega)]
      · rw [if_neg (by omega), if_neg h2, if_neg (by omega), List.append_nil, decT_succ]
        unfold putN
        have hl := decT_len d i k
        rw [List.take_append_of_le_length (by omega), List.drop_append_of_le_length (by omega)]
        simp
theorem outK_all {d : List Int} {i : Nat} (h : i < d.length) : outK d i d.length = blN d i := by
  rw [outK_eq, if_neg (by omega)]
  rfl
theorem nb_in {d : List Int} {x : Int} (h : nbB d x = true) : areN d 1 = true ∧ 0 ≤ x ∧ x < d.length := by simpa [nbB] using h
theorem nb_len {d : List Int} {x : Int} (h : (decide ((3 : Int) ≤ (d.length : Int)) && decide ((d.length : Int) ≤ 19)) = false) : nbB d x = false := by
  cases h' : nbB d x
  · rfl
  · have ha := are_in (nb_in h').1
    have : (decide ((3 : Int) ≤ (d.length : Int)) && decide ((d.length : Int) ≤ 19)) = true := by simp; omega
    rw [this] at h
    exact h
theorem nb_idx {d : List Int} {x : Int} (h : (decide (0 ≤ x) && decide (x ≤ (d.length : Int) - 1)) = false) : nbB d x = false := by
  cases h' : nbB d x
  · rfl
  · have ha := nb_in h'
    have : (decide (0 ≤ x) && decide (x ≤ (d.length : Int) - 1)) = true := by simp; omega
    rw [this] at h
    exact h
theorem nb_num {d : List Int} {x : Int} {q : Nat} (hq : q < d.length) (h : (decide (-99 ≤ gz d q) && decide (gz d q ≤ 100)) = false) : nbB d x = false := by
  cases h' : nbB d x
  · rfl
  · have ha := num_at (are_in (nb_in h').1).2.2 hq
    have : (decide (-99 ≤ gz d q) && decide (gz d q ≤ 100)) = true := by simp; omega
    rw [this] at h
    exact h
theorem nb_good {d : List Int} {x : Int} (h3 : 3 ≤ d.length) (h19 : d.length ≤ 19) (h0 : 0 ≤ x) (hx : x < d.length) (h : ∀ q, q < d.length → (decide (-99 ≤ gz d q) && decide (gz d q ≤ 100)) = true) : nbB d x = true := by
  have ha : d.all (numP 1) = true := by
    rw [List.all_eq_true]
    intro y hy
    obtain ⟨q, hq, rfl⟩ := List.getElem_of_mem hy
    have e : gz d q = d[q] := by simp [gz, hq]
    have := h q hq
    rw [e] at this
    simpa [numP] using this
  unfold nbB areN
  rw [ha]
  simp
  omega
theorem dec_bnd {d : List Int} {x : Int} (h : nbB d x = true) (i : Nat) {k : Nat} (hk : k < d.length) : -100 ≤ decZ d i k ∧ decZ d i k ≤ 100 := by
  have := num_at (are_in (nb_in h).1).2.2 hk
  unfold decZ
  split <;> omega
end Go.Proofs.YtohojjoediibhaaDoor
