/- NumbersBlow: the sum of 3 + the numbers stands. -/
import Derived.Test.YtcieihbknfeddaaI3
namespace Go.Proofs.Ytcieihbknfeddaa

def s3L (d : List Int) : Nat → Int
  | 0 => 0
  | k + 1 => s3L d k + 3 + gz d k
def s3S : List Int → Int
  | [] => 0
  | x :: d => 3 + x + s3S d
theorem s3S_app (a b : List Int) : s3S (a ++ b) = s3S a + s3S b := by
  induction a with
  | nil => simp [s3S]
  | cons x a ih => simp only [List.cons_append, s3S, ih]; omega
theorem s3L_take (d : List Int) {k : Nat} (h : k ≤ d.length) : s3L d k = s3S (d.take k) := by
  induction k with
  | zero => simp [s3L, s3S]
  | succ k ih =>
    have e : d.take (k + 1) = d.take k ++ [gz d k] := by
      rw [List.take_add_one]
      simp [gz, show k < d.length by omega]
    rw [e, s3S_app]
    show s3L d k + 3 + gz d k = _
    rw [ih (by omega)]
    simp only [s3S]
    omega
theorem s3L_all (d : List Int) : s3L d d.length = s3S d := by rw [s3L_take d (Nat.le_refl _), List.take_length]
theorem s3L_bnd {d : List Int} {B : Int} (h : ∀ j, -B ≤ gz d j ∧ gz d j ≤ B) (k : Nat) : -((B + 3) * k) ≤ s3L d k ∧ s3L d k ≤ (B + 3) * k := by
  induction k with
  | zero => simp [s3L]
  | succ k ih =>
    have e : (B + 3) * ((k + 1 : Nat) : Int) = (B + 3) * k + (B + 3) := by rw [Int.natCast_add, Int.mul_add]; simp
    have := h k
    show _ ≤ s3L d k + 3 + gz d k ∧ s3L d k + 3 + gz d k ≤ _
    omega
theorem decT_at {d : List Int} {i k n : Nat} (h : k < n) : gz (decT d i n) k = decZ d i k := by simp [gz, decT, h]
theorem s3_dec {d : List Int} {i : Nat} (h3 : 3 ≤ d.length) (hi : i < d.length) {k : Nat} (hk : k ≤ d.length) :
    s3L (decT d i d.length) k = s3L d k - (if i < k then 1 else 0) - (if (i + 1) % d.length < k then 1 else 0) := by
  have hne : (i + 1) % d.length ≠ i := by
    rcases Nat.lt_or_ge (i + 1) d.length with h | h
    · rw [Nat.mod_eq_of_lt h]; omega
    · rw [show i + 1 = d.length by omega, Nat.mod_self]; omega
  generalize hj : (i + 1) % d.length = j at *
  induction k with
  | zero => simp [s3L]
  | succ k ih =>
    have h := ih (by omega)
    show s3L _ k + 3 + gz _ k = s3L d k + 3 + gz d k - _ - _
    rw [h, decT_at (by omega)]
    unfold decZ
    rw [hj]
    clear h ih
    repeat' split
    all_goals omega
theorem blN_len {d : List Int} {i : Nat} (hi : i < d.length) : (blN d i).length = d.length + 1 := by
  unfold blN putN
  have := decT_len d i d.length
  simp only [List.length_append, List.length_take, List.length_cons, List.length_drop]
  omega
theorem blN_at {d : List Int} {i : Nat} (hi : i < d.length) : gz (blN d i) (i + 1) = -1 := by
  unfold blN putN gz
  have := decT_len d i d.length
  rw [List.getElem?_append_right (by simp; omega)]
  simp [List.length_take, this, show min (i + 1) d.length = i + 1 by omega]
theorem blN_sum {d : List Int} {i : Nat} (h3 : 3 ≤ d.length) (hi : i < d.length) : s3L (blN d i) (blN d i).length = s3L d d.length := by
  have h := s3_dec h3 hi (Nat.le_refl _)
  rw [if_pos hi, if_pos (Nat.mod_lt _ (by omega))] at h
  have hl := s3L_all (decT d i d.length)
  rw [decT_len] at hl
  rw [s3L_all]
  unfold blN putN
  rw [s3S_app]
  have e : s3S (decT d i d.length) = s3S ((decT d i d.length).take (i + 1)) + s3S ((decT d i d.length).drop (i + 1)) := by rw [← s3S_app, List.take_append_drop]
  simp only [s3S]
  omega
theorem blN_bnd {d : List Int} {x : Int} (h : nbB d x = true) (j : Nat) : -100 ≤ gz (blN d x.toNat) j ∧ gz (blN d x.toNat) j ≤ 100 := by
  obtain ⟨ha, h0, h1⟩ := nb_in h
  by_cases hj : j < (blN d x.toNat).length
  · have hm := gz_mem hj
    generalize gz (blN d x.toNat) j = y at hm ⊢
    unfold blN putN at hm
    have hT : ∀ y ∈ decT d x.toNat d.length, -100 ≤ y ∧ y ≤ 100 := by
      intro y hy
      unfold decT at hy
      obtain ⟨k, hk, rfl⟩ := List.mem_map.1 hy
      exact dec_bnd h _ (List.mem_range.1 hk)
    rcases List.mem_append.1 hm with c | c
    · exact hT _ (List.mem_of_mem_take c)
    · rcases List.mem_cons.1 c with c | c
      · omega
      · exact hT _ (List.mem_of_mem_drop c)
  · rw [gz_out (by omega)]; omega
theorem nbd_bnd {d : List Int} {x : Int} (h : nbB d x = true) (j : Nat) : -100 ≤ gz d j ∧ gz d j ≤ 100 := by
  have ha := are_in (nb_in h).1
  by_cases hj : j < d.length
  · have := num_at ha.2.2 hj; omega
  · rw [gz_out (by omega)]; omega
end Go.Proofs.Ytcieihbknfeddaa
