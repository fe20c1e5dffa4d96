/- Divisors: products, degrees, equivalence: the mathematics of the promises. -/
import Derived.Test.YtohojjoediibhaaGreatDoorQ8
namespace Go.Proofs.YtohojjoediibhaaGreatDoor
open Go.RowKit

theorem neighbours {l : List V2} (hS : Smooth l) (i : Nat) : (cyc l (i + l.length - 1)).1 + (cyc l (i + 1)).1 = -(numZ l i) * (cyc l i).1 ∧ (cyc l (i + l.length - 1)).2 + (cyc l (i + 1)).2 = -(numZ l i) * (cyc l i).2 := by
  by_cases hn : 0 < l.length
  · have h1 := hS.2 (i + l.length - 1)
    rw [show i + l.length - 1 + 1 = i + l.length by omega, cyc_add] at h1
    have h := three h1 (hS.2 i)
    unfold numZ
    rw [Int.neg_neg]
    exact h
  · have h0 : l = [] := List.eq_nil_of_length_eq_zero (by omega)
    subst h0
    have := hS.2 0
    simp [cyc, detV, detZ] at this
    exfalso
    grind
/-- the products of a vector with all rays, as a cyclic function -/
def dotQ (l : List V2) (m : V2) (i : Nat) : Int := dotZ m.1 m.2 (cyc l i).1 (cyc l i).2
theorem dotQ_mod (l : List V2) (m : V2) (i : Nat) : dotQ l m (i % l.length) = dotQ l m i := by unfold dotQ; rw [cyc_mod]
theorem dotQ_next {l : List V2} (hS : Smooth l) (m : V2) (i : Nat) : dotQ l m (i + l.length - 1) + dotQ l m (i + 1) = -(numZ l i) * dotQ l m i := by
  obtain ⟨h1, h2⟩ := neighbours hS i
  unfold dotQ dotZ
  grind
theorem gz_triv {l : List V2} {m : V2} {i : Nat} (h : i < l.length) : gz (trivL l m) i = dotQ l m i := gz_trivL h
/-- trivial divisors have no degrees -/
theorem deg_triv {l : List V2} (hS : Smooth l) (m : V2) {i : Nat} (hi : i < l.length) : degZ l (trivL l m) i = 0 := by
  have h0 : 0 < l.length := by omega
  unfold degZ
  rw [gz_triv (Nat.mod_lt _ h0), gz_triv (Nat.mod_lt _ h0), gz_triv hi, dotQ_mod, dotQ_mod]
  have := dotQ_next hS m i
  grind
/-- products do not see trivial divisors -/
theorem prod_triv {l : List V2} (hS : Smooth l) (h0 : 0 < l.length) (m : V2) (d : List Int) : prodZ l (trivL l m) d = 0 := by
  have h := deg_cycle (l := l) (d := d) (dotQ l m) h0 (dotQ_mod l m) (dotQ_next hS m)
  unfold prodZ dotD
  rw [← h]
  refine sumZ_congr (fun i hi => ?_)
  rw [gz_triv hi, Int.mul_comm]
theorem sum_back {n : Nat} (hn : 0 < n) (a b : List Int) : sumZ (fun i => gz a i * gz b ((i + n - 1) % n)) n = sumZ (fun i => gz b i * gz a ((i + 1) % n)) n := by
  rw [← sumZ_turn (fun i => gz a i * gz b ((i + n - 1) % n)) hn]
  exact sumZ_congr (fun i hi => by
    try dsimp only
    rw [mod_back hi, Int.mul_comm])
theorem prod_parts (l : List V2) (a b : List Int) : prodZ l a b = sumZ (fun i => gz a i * gz b ((i + l.length - 1) % l.length)) l.length + (sumZ (fun i => gz a i * gz b i * numZ l i) l.length + sumZ (fun i => gz a i * gz b ((i + 1) % l.length)) l.length) := by
  rw [← sumZ_plus, ← sumZ_plus]
  unfold prodZ dotD
  exact sumZ_congr (fun i _ => by unfold degZ; grind)
theorem prod_comm {l : List V2} (h0 : 0 < l.length) (a b : List Int) : prodZ l a b = prodZ l b a := by
  rw [prod_parts l a b, prod_parts l b a, sum_back h0 a b, sum_back h0 b a]
  have e : sumZ (fun i => gz a i * gz b i * numZ l i) l.length = sumZ (fun i => gz b i * gz a i * numZ l i) l.length := sumZ_congr (fun i _ => by rw [Int.mul_comm (gz a i)])
  rw [e]
  omega
theorem sumZ_scale (f : Nat → Int) (c : Int) (n : Nat) : sumZ (fun i => c * f i) n = c * sumZ f n := by
  induction n with
  | zero => simp [sumZ]
  | succ n ih => rw [sumZ_succ, sumZ_succ, ih, Int.mul_add]
/-- a sum of divisors in the first place -/
theorem prod_sum {l : List V2} {a b c : List Int} {n : Int} (ha : a.length = l.length) : prodZ l (sumL a n b) c = prodZ l a c + n * prodZ l b c := by
  unfold prodZ dotD
  rw [← sumZ_scale, ← sumZ_plus]
  exact sumZ_congr (fun i hi => by rw [gz_sumL (by omega)]; grind)
theorem gz_times {a : List Int} {n : Int} {i : Nat} (h : i < a.length) : gz (timesL a n) i = gz a i * n := gz_timesL h
theorem deg_times {l : List V2} {a : List Int} {n : Int} {i : Nat} (ha : a.length = l.length) (hi : i < l.length) : degZ l (timesL a n) i = n * degZ l a i := by
  have h0 : 0 < l.length := by omega
  have p1 : (i + l.length - 1) % l.length < a.length := by rw [ha]; exact Nat.mod_lt _ h0
  have p2 : (i + 1) % l.length < a.length := by rw [ha]; exact Nat.mod_lt _ h0
  unfold degZ
  rw [gz_times p1, gz_times p2, gz_times (show i < a.length by omega)]
  grind
theorem prod_times {l : List V2} {a : List Int} {n : Int} (ha : a.length = l.length) (c : List Int) : prodZ l (timesL a n) c = n * prodZ l a c := by
  unfold prodZ dotD
  rw [← sumZ_scale]
  exact sumZ_congr (fun i hi => by rw [gz_times (by omega)]; grind)
theorem prod_square {l : List V2} {a : List Int} {n : Int} (ha : a.length = l.length) (h0 : 0 < l.length) : prodZ l (timesL a n) (timesL a n) = n * n * prodZ l a a := by
  rw [prod_times ha, prod_comm h0, prod_times ha]
  grind
theorem plain_len' {l : List V2} {d : List Int} (h : d.length = l.length) : (plainL l d).length = l.length := by rw [plain_len]; exact h
theorem prod_plain {l : List V2} {a b : List Int} (hS : Smooth l) (h0 : 0 < l.length) (ha : a.length = l.length) : prodZ l (plainL l a) b = prodZ l a b := by
  unfold plainL
  rw [prod_sum ha, prod_triv hS h0]
  omega
theorem sum_comm {a b : List Int} (h : a.length = b.length) : sumL a 1 b = sumL b 1 a := by
  unfold sumL
  rw [h]
  exact List.map_congr_left (fun i _ => by omega)
theorem minus_self (d : List Int) : sumL d 1 (timesL d (-1)) = List.replicate d.length 0 := by
  refine gz_ext (by simp [sumL]) (fun j hj => ?_)
  rw [sumL_len] at hj
  rw [gz_sumL hj, gz_times hj]
  have : gz (List.replicate d.length 0) j = 0 := by simp [gz, hj]
  rw [this]
  omega
/-- equivalent divisors have the same degrees -/
theorem equiv_deg {l : List V2} {a b : List Int} (hS : Smooth l) (ha : a.length = l.length) (h : trivB l (sumL a (-1) b) = true) : degsZ l a = degsZ l b := by
  unfold degsZ
  refine List.map_congr_left (fun i hi => ?_)
  have hi := List.mem_range.1 hi
  have h0 : 0 < l.length := by omega
  have e : ∀ j, j < l.length → gz (sumL a (-1) b) j = gz (trivL l (vecZ l (sumL a (-1) b))) j := by
    intro j hj
    unfold trivB sameB at h
    have := List.all_eq_true.1 h j (List.mem_range.2 hj)
    simpa using this
  have h1 : degZ l (sumL a (-1) b) i = 0 := by
    have := deg_triv hS (vecZ l (sumL a (-1) b)) hi
    unfold degZ at this ⊢
    rw [e _ (Nat.mod_lt _ h0), e _ (Nat.mod_lt _ h0), e i hi]
    exact this
  rw [deg_sum ha hi] at h1
  omega
theorem vec_dot {l : List V2} (hS : Smooth l) (d : List Int) : dotQ l (vecZ l d) 0 = gz d 0 ∧ dotQ l (vecZ l d) 1 = gz d 1 := by
  have h := hS.2 0
  unfold dotQ dotZ vecZ
  unfold detV detZ at h
  rw [Nat.zero_add] at h
  dsimp only
  constructor <;> grind
/-- a list without degrees is that of a vector -/
theorem none_triv {l : List V2} {c : List Int} (hS : Smooth l) (h : ∀ i, i < l.length → degZ l c i = 0) : ∀ k, k + 1 < l.length → gz c k = dotQ l (vecZ l c) k ∧ gz c (k + 1) = dotQ l (vecZ l c) (k + 1) := by
  intro k
  induction k with
  | zero => intro _; exact ⟨(vec_dot hS c).1.symm, (vec_dot hS c).2.symm⟩
  | succ k ih =>
    intro hk
    obtain ⟨e1, e2⟩ := ih (by omega)
    refine ⟨e2, ?_⟩
    have hd := h (k + 1) (by omega)
    have hq := dotQ_next hS (vecZ l c) (k + 1)
    rw [show k + 1 + l.length - 1 = k + l.length by omega, ← dotQ_mod l _ (k + l.length), Nat.add_mod_right, dotQ_mod] at hq
    unfold degZ at hd
    rw [show k + 1 + l.length - 1 = k + l.length by omega, Nat.add_mod_right, Nat.mod_eq_of_lt (by omega : k < l.length), Nat.mod_eq_of_lt (by omega : k + 1 + 1 < l.length), e1, e2] at hd
    grind
/-- the same degrees are equivalent -/
theorem deg_equiv {l : List V2} {a b : List Int} (hS : Smooth l) (h2 : 2 ≤ l.length) (ha : a.length = l.length) (h : degsZ l a = degsZ l b) : trivB l (sumL a (-1) b) = true := by
  have hd : ∀ i, i < l.length → degZ l (sumL a (-1) b) i = 0 := by
    intro i hi
    rw [deg_sum ha hi]
    have e : gz (degsZ l a) i = gz (degsZ l b) i := by rw [h]
    have e1 : gz (degsZ l a) i = degZ l a i := gz_tab _ hi
    have e2 : gz (degsZ l b) i = degZ l b i := gz_tab _ hi
    omega
  unfold trivB
  refine same_true (fun j hj => ?_)
  rw [gz_triv hj]
  have h3 := none_triv hS hd
  rcases Nat.eq_zero_or_pos j with rfl | hj0
  · exact (h3 0 (by omega)).1
  · have := (h3 (j - 1) (by omega)).2
    rwa [show j - 1 + 1 = j by omega] at this
end Go.Proofs.YtohojjoediibhaaGreatDoor
